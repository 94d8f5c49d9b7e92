/- Fields as bytes, in plain mathematics; rows of byte rows of our own. -/
import Derived.Test.YtcohllhmfghlfaaDoorGen
import Derived.Test.YtcohllhmfghlfaaDoorLbs
namespace Go.Proofs.YtcohllhmfghlfaaDoor
set_option linter.unusedVariables false
set_option linter.unusedSimpArgs false
open Go.RowKit

/-- How many bytes the first fields are; these. -/
def wl (L : Nat → Nat) : Nat → Nat
  | 0 => 1
  | i + 1 => wl L i + 2 + L i
def wf (q : Nat) (L : Nat → Nat) (G : Nat → Nat → Nat) : Nat → Nat → Nat
  | 0 => fun _ => q
  | i + 1 => catF (wl L i + 2) (catF (wl L i) (wf q L G i) (two (L i / 256) (L i % 256))) (G i)
theorem wl_mono (L : Nat → Nat) : ∀ {n i : Nat}, i ≤ n → wl L i ≤ wl L n := by
  intro n
  induction n with
  | zero => intro i h; obtain rfl : i = 0 := by omega
            exact Nat.le_refl _
  | succ n ih =>
    intro i h
    by_cases e : i = n + 1
    · subst e; exact Nat.le_refl _
    · exact Nat.le_trans (ih (by omega)) (by show _ ≤ wl L n + 2 + L n; omega)
theorem wl_pos (L : Nat → Nat) (i : Nat) : 1 ≤ wl L i := wl_mono L (Nat.zero_le i)
theorem wl_ge (L : Nat → Nat) (i : Nat) : 1 + 2 * i ≤ wl L i := by
  induction i with
  | zero => exact Nat.le_refl _
  | succ n ih => show _ ≤ wl L n + 2 + L n; omega
theorem two_lt {x y : Nat} (hx : x < 256) (hy : y < 256) (i : Nat) : two x y i < 256 := by unfold two; split <;> assumption
theorem wf_lt {q : Nat} {L : Nat → Nat} {G : Nat → Nat → Nat} (hq : q < 256) : ∀ n, (∀ i, i < n → L i < 65536) → (∀ i, i < n → ∀ k, k < L i → G i k < 256) → ∀ k, k < wl L n → wf q L G n k < 256
  | 0, _, _ => fun _ _ => hq
  | n + 1, h1, h2 => catF_b (catF_b (wf_lt hq n (fun i hi => h1 i (by omega)) fun i hi => h2 i (by omega)) (fun i _ => two_lt (by have := h1 n (by omega); omega) (by omega) i)) (h2 n (by omega))
/-- Where fields lie in bytes. -/
def ps (B : Nat → Nat) : Nat → Nat
  | 0 => 1
  | i + 1 => ps B i + 2 + (256 * B (ps B i) + B (ps B i + 1))
def fl (B : Nat → Nat) (i : Nat) : Nat := 256 * B (ps B i) + B (ps B i + 1)
theorem ps_succ (B : Nat → Nat) (i : Nat) : ps B (i + 1) = ps B i + 2 + fl B i := rfl
theorem ps_mono (B : Nat → Nat) : ∀ {n i : Nat}, i ≤ n → ps B i ≤ ps B n := by
  intro n
  induction n with
  | zero => intro i h; obtain rfl : i = 0 := by omega
            exact Nat.le_refl _
  | succ n ih =>
    intro i h
    by_cases e : i = n + 1
    · subst e; exact Nat.le_refl _
    · exact Nat.le_trans (ih (by omega)) (by rw [ps_succ]; omega)
theorem ps_pos (B : Nat → Nat) (i : Nat) : 1 ≤ ps B i := ps_mono B (Nat.zero_le i)
/-- Bytes are fields' if they are parted so. -/
def Fits (n : Nat) (B : Nat → Nat) : Prop := 1 ≤ n ∧ n ≤ 1024 ∧ B 0 ≤ 16 ∧ ps B (B 0) = n
instance (n : Nat) (B : Nat → Nat) : Decidable (Fits n B) := by unfold Fits; infer_instance
theorem Fits.at {n : Nat} {B : Nat → Nat} (h : Fits n B) {i : Nat} (hi : i < B 0) : ps B i + 2 + fl B i ≤ n := by
  obtain ⟨_, _, _, h4⟩ := h
  rw [← ps_succ, ← h4]; exact ps_mono B hi
/-- What the fields' bytes tell. -/
theorem wf_same {q : Nat} {L : Nat → Nat} {G : Nat → Nat → Nat} : ∀ {n i : Nat}, i ≤ n → ∀ k, k < wl L i → wf q L G n k = wf q L G i k := by
  intro n
  induction n with
  | zero => intro i h; obtain rfl : i = 0 := by omega
            exact fun _ _ => rfl
  | succ n ih =>
    intro i h k hk
    by_cases e : i = n + 1
    · subst e; rfl
    · have h1 := wl_mono L (show i ≤ n by omega)
      have h2 : k < wl L n + 2 := by omega
      have h3 : k < wl L n := by omega
      show catF _ _ _ k = _
      unfold catF
      rw [if_pos h2, if_pos h3]; exact ih (by omega) k hk
theorem wf_head (q : Nat) (L : Nat → Nat) (G : Nat → Nat → Nat) (n : Nat) : wf q L G n 0 = q := wf_same (Nat.zero_le n) 0 (by show 0 < 1; decide)
theorem wf_len {q : Nat} {L : Nat → Nat} {G : Nat → Nat → Nat} {n i : Nat} (hi : i < n) : wf q L G n (wl L i) = L i / 256 ∧ wf q L G n (wl L i + 1) = L i % 256 := by
  have hs : wl L (i + 1) = wl L i + 2 + L i := rfl
  constructor
  · rw [wf_same (show i + 1 ≤ n by omega) _ (by rw [hs]; omega)]
    show catF _ _ _ _ = _
    unfold catF
    rw [if_pos (by omega), if_neg (by omega), Nat.sub_self]; rfl
  · rw [wf_same (show i + 1 ≤ n by omega) _ (by rw [hs]; omega)]
    show catF _ _ _ _ = _
    unfold catF
    rw [if_pos (by omega), if_neg (by omega), show wl L i + 1 - wl L i = 1 by omega]; rfl
theorem wf_at {q : Nat} {L : Nat → Nat} {G : Nat → Nat → Nat} {n i k : Nat} (hi : i < n) (hk : k < L i) : wf q L G n (wl L i + 2 + k) = G i k := by
  have hs : wl L (i + 1) = wl L i + 2 + L i := rfl
  rw [wf_same (show i + 1 ≤ n by omega) _ (by rw [hs]; omega)]
  show catF _ _ _ _ = _
  unfold catF
  rw [if_neg (by omega), show wl L i + 2 + k - (wl L i + 2) = k by omega]
theorem ps_wf {q : Nat} {L : Nat → Nat} {G : Nat → Nat → Nat} {n : Nat} {B : Nat → Nat} (hB : ∀ k, k < wl L n → B k = wf q L G n k) : ∀ {i : Nat}, i ≤ n → ps B i = wl L i
  | 0, _ => rfl
  | i + 1, hi => by
    have ih := ps_wf hB (show i ≤ n by omega)
    have hs : wl L (i + 1) = wl L i + 2 + L i := rfl
    have hm := wl_mono L hi
    obtain ⟨h1, h2⟩ := wf_len (q := q) (G := G) (show i < n by omega)
    rw [ps_succ, hs]
    unfold fl
    rw [ih, hB _ (by omega), hB _ (by omega), h1, h2]; omega
theorem fl_wf {q : Nat} {L : Nat → Nat} {G : Nat → Nat → Nat} {n : Nat} {B : Nat → Nat} (hB : ∀ k, k < wl L n → B k = wf q L G n k) {i : Nat} (hi : i < n) : fl B i = L i := by
  have hs : wl L (i + 1) = wl L i + 2 + L i := rfl
  have hm := wl_mono L (show i + 1 ≤ n by omega)
  obtain ⟨h1, h2⟩ := wf_len (q := q) (G := G) hi
  unfold fl
  rw [ps_wf hB (by omega), hB _ (by omega), hB _ (by omega), h1, h2]; omega
/-- Fields made of bytes are these bytes. -/
theorem wf_fl {n : Nat} {B : Nat → Nat} (hb : ∀ k, k < n → B k < 256) : ∀ {i : Nat}, ps B i ≤ n → wl (fl B) i = ps B i ∧ ∀ k, k < ps B i → wf (B 0) (fl B) (fun i k => B (ps B i + 2 + k)) i k = B k
  | 0, _ => ⟨rfl, fun k hk => by obtain rfl : k = 0 := by (have : k < 1 := hk); omega
                                 rfl⟩
  | i + 1, h => by
    rw [ps_succ] at h
    obtain ⟨h1, h2⟩ := wf_fl hb (i := i) (by omega)
    refine ⟨by show wl (fl B) i + 2 + fl B i = _; rw [h1, ps_succ], fun k hk => ?_⟩
    rw [ps_succ] at hk
    show catF _ _ _ k = _
    unfold catF
    rw [h1]
    have hx := hb (ps B i + 1) (by omega)
    by_cases e : k < ps B i + 2
    · rw [if_pos e]
      by_cases e2 : k < ps B i
      · rw [if_pos e2]; exact h2 k e2
      · rw [if_neg e2]
        unfold two fl
        by_cases e3 : k - ps B i = 0
        · rw [if_pos e3, show k = ps B i by omega]; omega
        · rw [if_neg e3, show k = ps B i + 1 by omega]; omega
    · rw [if_neg e]; show B (ps B i + 2 + (k - (ps B i + 2))) = B k; congr 1; omega
/-- Byte rows in a row of our own. -/
structure RL (w : World) (base : Nat) (v : Value) (k : Nat) (L : Nat → Nat) (G : Nat → Nat → Nat) : Prop where
  x : ∃ xs : List Value, w.ownsRow base 22 1 v k xs ∧ ∀ i, i < k → ∃ od cp, xs[i]? = some (.slice od (L i) cp) ∧ L i ≤ cp ∧ cp ≤ maxLen ∧ Bytes w od (L i) (G i) ∧ (od = none → L i = 0) ∧ (∀ a, od = some a → 0 < L i → v.ownBlock ≠ some a.block)
theorem RL.nil (w : World) (base : Nat) (L : Nat → Nat) (G : Nat → Nat → Nat) : RL w base (.slice none 0 0) 0 L G := ⟨[], World.ownsRow_nil w base _ 1, fun i hi => absurd hi (Nat.not_lt_zero _)⟩
theorem RL.lbs {w : World} {base : Nat} {v : Value} {k : Nat} {L : Nat → Nat} {G : Nat → Nat → Nat} (h : RL w base v k L G) : ∃ oa cap, v = .slice oa k cap ∧ k ≤ cap ∧ cap ≤ maxLen ∧ LBs w oa k L G ∧ (oa = none → k = 0) := by
  obtain ⟨xs, ho, hx⟩ := h.x
  rcases ho.2 with ⟨rfl, rfl⟩ | ⟨g, cap, cur, rfl, hb, hh, hnc, hm, hsz, hcur⟩
  · exact ⟨none, 0, rfl, Nat.le_refl _, by unfold maxLen; omega, fun i hi => absurd hi (Nat.not_lt_zero _), fun _ => rfl⟩
  · refine ⟨_, cap, rfl, hnc, hm, fun i hi => ?_, fun e => by cases e⟩
    obtain ⟨od, cp, h1, h2, h3, h4, h5, _⟩ := hx i hi
    refine ⟨g, 0, od, cp, rfl, ?_, h2, h4, h5, h3⟩
    have h6 : w.cell? ⟨g, 0 + i, none⟩ = cur[0 + i]? := by simp [World.cell?, hh]
    rw [h6, Nat.zero_add, ← Array.getElem?_toList, ← List.getElem?_take_of_lt (show i < k * 1 by omega), hcur]
    exact h1
theorem RL.later {w w' : World} {base : Nat} {v : Value} {k : Nat} {L : Nat → Nat} {G : Nat → Nat → Nat} (h : RL w base v k L G) (hb : Below w.heap.size w w') : RL w' base v k L G := by
  obtain ⟨xs, ho, hx⟩ := h.x
  refine ⟨xs, ?_, fun i hi => ?_⟩
  · refine ⟨ho.1, ?_⟩
    rcases ho.2 with h2 | ⟨g, cap, cur, hv, hg, hh, r⟩
    · exact .inl h2
    · exact .inr ⟨g, cap, cur, hv, hg, by rw [hb.block g (lt_of_block hh)]; exact hh, r⟩
  · obtain ⟨od, cp, h1, h2, h3, h4, h5, h6⟩ := hx i hi
    exact ⟨od, cp, h1, h2, h3, h4.later hb, h5, h6⟩
theorem RL.lt {w : World} {base : Nat} {v : Value} {k : Nat} {L : Nat → Nat} {G : Nat → Nat → Nat} (h : RL w base v k L G) : ∀ j, v.ownBlock = some j → base ≤ j ∧ j < w.heap.size := by
  obtain ⟨xs, ho, _⟩ := h.x
  exact World.ownsRow.lt ho
theorem info_sl : (Tryd.prog.info? 22).map (fun i => (i.zero, i.size, i.bytes)) = some (some (.slice none 0 0), 1, 24) := by kernel_rfl
theorem below_gr {w w' : World} {base : Nat} {v : Value} (hl : ∀ j, v.ownBlock = some j → base ≤ j) (hs : base ≤ w.heap.size) (hg : w.grownBy w' v.ownBlock) : Below base w w' := by
  refine (own_of_grown hg).below ?_ hs
  cases e : v.ownBlock with
  | none => simp; exact hs
  | some b => simp; exact hl b e
/-- One row more. -/
theorem wpList_appR {ops : Array Oper} {rest : List Oper} {o : Oper} {a : Act} {Q : Exit → Act → World → Prop} (hgd : o.guard = none) (s x : Operand)
    (ho : o.op = .call { callee := .builtin .append, args := #[s, x], argTypes := #[44, 44] })
    (base : Nat) (v : Value) (k : Nat) (L : Nat → Nat) (G : Nat → Nat → Nat) (l : Nat) (g : Nat → Nat) (od : Option Addr) (cp : Nat) (W : World) (hs : a.eval s = v) (h : RL W base v k L G) (hx : a.eval x = .slice (some ⟨W.heap.size, 0, none⟩) 1 1)
    (hB : Bytes W od l g) (hc : l ≤ cp) (hm : cp ≤ maxLen) (hno : od = none → l = 0) (hne : ∀ ad, od = some ad → 0 < l → v.ownBlock ≠ some ad.block) (hL : L k = l) (hG : ∀ i, i < l → G k i = g i) (hn : k < 1000000000000) (hbase : base ≤ W.heap.size)
    (hk : ∀ v' w', RL w' base v' (k + 1) L G → Below base W w' → wpList Tryd.prog ops Q rest (a.put o.dst v') w') :
    wpList Tryd.prog ops Q (o :: rest) a (W.alloc (.cells #[.slice od l cp] 22)) := by
  obtain ⟨i0, hi, hz0, hz1, hz2⟩ := info_parts info_sl
  obtain ⟨xs, hown, hxs⟩ := h.x
  have hal : Below W.heap.size W (W.alloc (.cells #[.slice od l cp] 22)) := (Below.refl _ _).alloc (Nat.le_refl _) _
  refine wpList_append_own_at _ hgd s x 44 ho base 22 i0 (.slice none 0 0) 1 24 Tryd.underlying44 hi hz0 hz1 hz2 rfl (by decide) v k xs hs (World.ownsRow.alloc hown _) ⟨W.heap.size, 0, none⟩ 1 1 [.slice od l cp] hx rfl
    (cell_one_new _ _ _) (fun u hu => by simp at hu; subst hu; rfl) (by unfold maxLen; omega) (by omega) (by simp; omega) ?_
  intro v' w' hown' hg _ hob
  have hO := own_of_grown hg
  have hb : Below base W w' := (hal.mono hbase).trans (below_gr (fun j hj => (World.ownsRow.lt hown j hj).1) (Nat.le_trans hbase hal.size) hg)
  refine hk v' w' ⟨xs ++ [.slice od l cp], hown', fun i hi' => ?_⟩ hb
  have hsz : (W.alloc (.cells #[.slice od l cp] 22)).heap.size = W.heap.size + 1 := by simp
  have keep : ∀ (od : Option Addr) (l : Nat) (g : Nat → Nat), Bytes W od l g → (∀ ad, od = some ad → 0 < l → v.ownBlock ≠ some ad.block) → Bytes w' od l g ∧ ∀ ad, od = some ad → 0 < l → v'.ownBlock ≠ some ad.block := fun od l g hB hne => by
    refine ⟨(hB.later hal).own hO fun ad ha hl => ne_own (Nat.lt_of_lt_of_le (hB.lt ad ha hl) hal.size) (hne ad ha hl), fun ad ha hl => ?_⟩
    rcases hob with e | e
    · rw [e]; exact hne ad ha hl
    · rw [e, hsz]; intro e2
      have h9 := hB.lt ad ha hl
      have e3 := Option.some.inj e2
      omega
  have hlen : xs.length = k := by have := hown.1; omega
  by_cases e : i < k
  · obtain ⟨od', cp', h1, h2, h3, h4, h5, h6⟩ := hxs i e
    obtain ⟨h7, h8⟩ := keep od' (L i) (G i) h4 h6
    exact ⟨od', cp', by rw [List.getElem?_append_left (by omega)]; exact h1, h2, h3, h7, h5, h8⟩
  · obtain rfl : i = k := by omega
    obtain ⟨h7, h8⟩ := keep od l g hB hne
    refine ⟨od, cp, by rw [List.getElem?_append_right (by omega), hlen, Nat.sub_self, hL]; rfl, by rw [hL]; exact hc, hm, ?_, by rw [hL]; exact hno, by rw [hL]; exact h8⟩
    rw [hL]
    intro j hj
    obtain ⟨q1, q2⟩ := h7 j hj
    rw [hG j hj]; exact ⟨q1, q2⟩
end Go.Proofs.YtcohllhmfghlfaaDoor
