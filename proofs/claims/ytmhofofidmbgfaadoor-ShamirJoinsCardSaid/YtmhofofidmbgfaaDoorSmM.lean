/- Secrets in parts, in plain mathematics. -/
import Derived.Test.YtmhofofidmbgfaaDoorPoLag
import Derived.Test.YtmhofofidmbgfaaDoorApr
namespace Go.Proofs.YtmhofofidmbgfaaDoor
set_option linter.unusedVariables false
set_option linter.unusedSimpArgs false

/-- The polynomial of byte j: the secret's byte, and its draws, k of them. -/
def cF (s d : Nat → Nat) (k j : Nat) : Nat → Nat := catF 1 (fun _ => s j) (fun i => d (j * k + i))
/-- Byte j of the part at a place. -/
def shF (s d : Nat → Nat) (k x j : Nat) : Nat := evalN (cF s d k j) (1 + k) x
theorem shF_lt (s d : Nat → Nat) (k x j : Nat) : shF s d k x j < 256 := evalN_lt _ _ _
theorem mulk_lt {j k L i : Nat} (hj : j < L) (hi : i < k) : j * k + i < L * k := Nat.lt_of_lt_of_le (show j * k + i < j * k + k by omega) (by rw [← Nat.succ_mul]; exact Nat.mul_le_mul_right k hj)
theorem cF_lt {s d : Nat → Nat} {k j L : Nat} (hs : ∀ j, j < L → s j < 256) (hd : ∀ i, i < L * k → d i < 256) (hj : j < L) : ∀ i, i < 1 + k → cF s d k j i < 256 := fun i hi => by
  unfold cF catF
  by_cases h : i < 1
  · rw [if_pos h]; exact hs j hj
  · rw [if_neg h]; exact hd _ (mulk_lt hj (by omega))
theorem evalN_at_zero (f : Nat → Nat) {n : Nat} (hn : 0 < n) (h0 : f 0 < 256) : evalN f n 0 = f 0 := by
  obtain ⟨m, rfl⟩ : ∃ m, n = m + 1 := ⟨n - 1, by omega⟩
  unfold evalN
  rw [xsum_head, xsum_none, Nat.xor_zero, powN_zero, mulN_one h0]
  intro i _
  rw [powN_succ (by decide), mulN_zero_right, mulN_zero_right]
theorem shF_secret {s d : Nat → Nat} {k j : Nat} (hs : s j < 256) : shF s d k 0 j = s j := by
  unfold shF
  rw [evalN_at_zero _ (by omega) (by unfold cF catF; rw [if_pos (by omega)]; exact hs)]
  rfl
/-- K parts of a secret at distinct places, put together at a place. -/
theorem shares_join {s d p : Nat → Nat} {k j L : Nat} (hs : ∀ j, j < L → s j < 256) (hd : ∀ i, i < L * k → d i < 256) (hj : j < L) (hp : ∀ i, i < k + 1 → p i < 256) (hne : ∀ i j, i < j → j < k + 1 → p i ≠ p j) {x : Nat} (hx : x < 256) :
    xsum (fun i => mulN (shF s d k (p i) j) (wF p i x (k + 1))) (k + 1) = shF s d k x j :=
  lagrange (c := cF s d k j) (m := 1 + k) hp hne (cF_lt hs hd hj) (by omega) hx
theorem cF_xor (s d o f : Nat → Nat) (k j i : Nat) : cF (fun j => s j ^^^ o j) (fun i => d i ^^^ f i) k j i = cF s d k j i ^^^ cF o f k j i := by
  unfold cF catF
  by_cases h : i < 1
  · rw [if_pos h, if_pos h, if_pos h]
  · rw [if_neg h, if_neg h, if_neg h]
/-- Parts of sums are sums of parts. -/
theorem shF_xor {s d o f : Nat → Nat} {k L j x : Nat} (hs : ∀ j, j < L → s j < 256) (hd : ∀ i, i < L * k → d i < 256) (ho : ∀ j, j < L → o j < 256) (hf : ∀ i, i < L * k → f i < 256) (hj : j < L) :
    shF (fun j => s j ^^^ o j) (fun i => d i ^^^ f i) k x j = shF s d k x j ^^^ shF o f k x j := by
  unfold shF
  rw [← evalN_xor (1 + k) (cF_lt hs hd hj) (cF_lt ho hf hj)]
  exact evalN_congr x fun i _ => cF_xor s d o f k j i

/-- A polynomial: its first number, and x times the rest. -/
theorem evalN_head {f : Nat → Nat} {n x : Nat} (hf : ∀ i, i < n + 1 → f i < 256) (hx : x < 256) : evalN f (n + 1) x = f 0 ^^^ mulN (evalN (fun i => f (i + 1)) n x) x := by
  unfold evalN
  rw [xsum_head, powN_zero, mulN_one (hf 0 (by omega)), xsum_mul_right x n fun i _ => mulN_lt _ _]
  congr 1
  exact xsum_congr n fun i _ => by rw [powN_succ hx, mulN_assoc]
theorem divN_mulN {a b : Nat} (ha : a < 256) (hb0 : b ≠ 0) (hb : b < 256) : divN (mulN a b) b = a := by
  have h := div_mul (a := mulN a b) (b := b) (mulN_lt _ _) hb0 hb
  have hd : divN (mulN a b) b < 256 := divN_lt _ _
  -- two numbers whose products with b are one
  have e : mulN (divN (mulN a b) b ^^^ a) b = 0 := by rw [mulN_xor_left _ hd ha, h, Nat.xor_self]
  rcases mulN_eq_zero.1 e with h0 | h0
  · exact xor_eq_zero h0
  · exact absurd h0 hb0
/-- The polynomial through places, at 0: what a place's value grows to. -/
def zF (f y : Nat → Nat) (a : Nat) : Nat → Nat | 0 => y a | k + 1 => if k = a then zF f y a k else mulN (zF f y a k) (divN (f k) (f a ^^^ f k))
theorem zF_eq {f y : Nat → Nat} {a : Nat} (hy : y a < 256) : ∀ k, zF f y a k = mulN (y a) (wF f a 0 k)
  | 0 => (mulN_one hy).symm
  | k + 1 => by
    show (if k = a then zF f y a k else mulN (zF f y a k) (divN (f k) (f a ^^^ f k))) = mulN (y a) (if k = a then wF f a 0 k else mulN (wF f a 0 k) (divN (0 ^^^ f k) (f a ^^^ f k)))
    by_cases h : k = a
    · rw [if_pos h, if_pos h, zF_eq hy k]
    · rw [if_neg h, if_neg h, zF_eq hy k, Nat.zero_xor, mulN_assoc]
theorem zF_lt {f y : Nat → Nat} {a : Nat} (hy : y a < 256) (k : Nat) : zF f y a k < 256 := by rw [zF_eq hy]; exact mulN_lt _ _
def zeroF (f y : Nat → Nat) (n : Nat) : Nat := xsum (fun a => zF f y a n) n
theorem zeroF_lt {f y : Nat → Nat} {n : Nat} (hy : ∀ a, a < n → y a < 256) : zeroF f y n < 256 := xsum_lt n fun a ha => zF_lt (hy a ha) n
theorem zeroF_of {f y g : Nat → Nat} {n m : Nat} (hf : ∀ i, i < n → f i < 256) (hne : ∀ i j, i < j → j < n → f i ≠ f j) (hg : ∀ i, i < m → g i < 256) (hm : 0 < m) (hmn : m ≤ n) (hy : ∀ a, a < n → y a = evalN g m (f a)) :
    zeroF f y n = g 0 := by
  rw [← evalN_at_zero g hm (hg 0 hm), ← lagrange hf hne hg hmn (x := 0) (by decide)]
  refine xsum_congr n fun a ha => ?_
  rw [zF_eq (by rw [hy a ha]; exact evalN_lt _ _ _), hy a ha]
/-- What is left at each place, number by number. -/
def yS (f y : Nat → Nat) (n : Nat) : Nat → Nat → Nat | 0 => y | q + 1 => fun a => divN (yS f y n q a ^^^ zeroF f (yS f y n q) n) (f a)
theorem yS_lt {f y : Nat → Nat} {n : Nat} (hy : ∀ a, a < n → y a < 256) : ∀ q a, a < n → yS f y n q a < 256
  | 0, a, ha => hy a ha
  | _ + 1, _, _ => divN_lt _ _
theorem yS_of {f y g : Nat → Nat} {n : Nat} (hf : ∀ i, i < n → f i < 256) (h0 : ∀ i, i < n → f i ≠ 0) (hne : ∀ i j, i < j → j < n → f i ≠ f j) (hg : ∀ i, i < n → g i < 256) (hy : ∀ a, a < n → y a = evalN g n (f a)) :
    ∀ q, q ≤ n → ∀ a, a < n → yS f y n q a = evalN (fun i => g (i + q)) (n - q) (f a)
  | 0, _, a, ha => hy a ha
  | q + 1, hq, a, ha => by
    have ih := yS_of hf h0 hne hg hy q (by omega)
    have hc : zeroF f (yS f y n q) n = g q := by
      rw [zeroF_of (m := n - q) (g := fun i => g (i + q)) hf hne (fun i hi => hg _ (by omega)) (by omega) (by omega) ih, Nat.zero_add]
    show divN (yS f y n q a ^^^ zeroF f (yS f y n q) n) (f a) = _
    obtain ⟨m, hm⟩ : ∃ m, n - q = m + 1 := ⟨n - q - 1, by omega⟩
    have hm2 : n - (q + 1) = m := by omega
    have e : evalN (fun i => g (i + q)) (m + 1) (f a) = g (0 + q) ^^^ mulN (evalN (fun i => g (i + 1 + q)) m (f a)) (f a) := evalN_head (f := fun i => g (i + q)) (fun i hi => hg _ (by omega)) (hf a ha)
    rw [hc, ih a ha, hm, e, hm2, Nat.zero_add, Nat.xor_comm (g q), Nat.xor_assoc, Nat.xor_self, Nat.xor_zero, divN_mulN (evalN_lt _ _ _) (h0 a ha) (hf a ha)]
    exact evalN_congr _ fun i _ => by rw [show i + 1 + q = i + (q + 1) by omega]
theorem zero_of {f y g : Nat → Nat} {n q : Nat} (hf : ∀ i, i < n → f i < 256) (h0 : ∀ i, i < n → f i ≠ 0) (hne : ∀ i j, i < j → j < n → f i ≠ f j) (hg : ∀ i, i < n → g i < 256) (hy : ∀ a, a < n → y a = evalN g n (f a)) (hq : q < n) :
    zeroF f (yS f y n q) n = g q := by
  rw [zeroF_of (m := n - q) (g := fun i => g (i + q)) hf hne (fun i hi => hg _ (by omega)) (by omega) (by omega) (yS_of hf h0 hne hg hy q (by omega)), Nat.zero_add]
/-- Through whatever values goes a polynomial. -/
theorem interp_is_poly {f y : Nat → Nat} {n : Nat} (hf : ∀ i, i < n → f i < 256) (hne : ∀ i j, i < j → j < n → f i ≠ f j) (hy : ∀ a, a < n → y a < 256) : ∃ g : Nat → Nat, (∀ i, g i < 256) ∧ ∀ a, a < n → evalN g n (f a) = y a := by
  have hP : ∀ i, i < n → ∃ g : Nat → Nat, (∀ j, g j < 256) ∧ ∀ x, x < 256 → wF f i x n = evalN g n x := fun i hi => by
    obtain ⟨g, h1, h2⟩ := wF_poly hf hi hne n (Nat.le_refl _)
    exact ⟨g, h1, fun x hx => by rw [h2 x hx, if_pos hi]⟩
  have hG : ∃ G : Nat → Nat → Nat, (∀ i j, G i j < 256) ∧ ∀ i, i < n → ∀ x, x < 256 → wF f i x n = evalN (G i) n x := by
    refine ⟨fun i => if h : i < n then (hP i h).choose else fun _ => 0, fun i j => ?_, fun i hi x hx => ?_⟩
    · by_cases h : i < n
      · simp only [dif_pos h]; exact (hP i h).choose_spec.1 j
      · simp only [dif_neg h]; decide
    · have h2 := (hP i hi).choose_spec.2 x hx
      simp only [dif_pos hi]; exact h2
  obtain ⟨G, hG1, hG2⟩ := hG
  refine ⟨fun j => xsum (fun i => mulN (y i) (G i j)) n, fun j => xsum_lt n fun _ _ => mulN_lt _ _, fun a ha => ?_⟩
  rw [evalN_sum n (hf a ha) hG1, xsum_one (k := a) n ha fun i hi hia => ?_]
  · rw [← hG2 a ha _ (hf a ha), wF_own hf ha hne n (Nat.le_refl _), mulN_one (hy a ha)]
  · rw [← hG2 i hi _ (hf a ha), wF_zero (fun e => hia e.symm) n ha, mulN_zero_right]
/-- The draws by which a secret (its byte z) has some parts' bytes. -/
def drawF (f b : Nat → Nat) (z k q : Nat) : Nat := zeroF f (yS f (fun a => divN (b a ^^^ z) (f a)) k q) k
theorem drawF_lt (f b : Nat → Nat) (z k q : Nat) : drawF f b z k q < 256 := zeroF_lt fun a ha => yS_lt (fun _ _ => divN_lt _ _) q a ha
theorem drawF_back {s d f : Nat → Nat} {k j L q : Nat} (hs : ∀ j, j < L → s j < 256) (hd : ∀ i, i < L * k → d i < 256) (hj : j < L) (hf : ∀ i, i < k → f i < 256) (h0 : ∀ i, i < k → f i ≠ 0) (hne : ∀ i j, i < j → j < k → f i ≠ f j) (hq : q < k) :
    drawF f (fun a => shF s d k (f a) j) (s j) k q = d (j * k + q) := by
  unfold drawF
  refine zero_of (g := fun i => d (j * k + i)) hf h0 hne (fun i hi => hd _ (mulk_lt hj hi)) (fun a ha => ?_) hq
  show divN (evalN (cF s d k j) (1 + k) (f a) ^^^ s j) (f a) = _
  rw [Nat.add_comm 1 k, evalN_head (fun i hi => cF_lt hs hd hj i (by omega)) (hf a ha), show cF s d k j 0 = s j from rfl, Nat.xor_comm (s j), Nat.xor_assoc, Nat.xor_self, Nat.xor_zero, divN_mulN (evalN_lt _ _ _) (h0 a ha) (hf a ha)]
  exact evalN_congr _ fun i _ => by show catF 1 _ _ (i + 1) = _; unfold catF; rw [if_neg (by omega), Nat.add_sub_cancel]
theorem drawF_there {o f b : Nat → Nat} {d : Nat → Nat} {k j : Nat} (ho : o j < 256) (hb : ∀ a, a < k → b a < 256) (hf : ∀ i, i < k → f i < 256) (h0 : ∀ i, i < k → f i ≠ 0) (hne : ∀ i j, i < j → j < k → f i ≠ f j)
    (hd : ∀ q, q < k → d (j * k + q) = drawF f b (o j) k q) {a : Nat} (ha : a < k) : shF o d k (f a) j = b a := by
  obtain ⟨g, hg, he⟩ := interp_is_poly (y := fun a => divN (b a ^^^ o j) (f a)) hf hne (fun a _ => divN_lt _ _)
  have hq : ∀ q, q < k → d (j * k + q) = g q := fun q hq => by
    rw [hd q hq]
    exact zero_of hf h0 hne (fun i _ => hg i) (fun a ha => (he a ha).symm) hq
  have hc : ∀ i, i < k + 1 → cF o d k j i < 256 := fun i hi => by
    unfold cF catF
    by_cases h : i < 1
    · rw [if_pos h]; exact ho
    · rw [if_neg h]; show d (j * k + (i - 1)) < 256; rw [hq _ (by omega)]; exact hg _
  unfold shF
  rw [Nat.add_comm 1 k, evalN_head hc (hf a ha), show cF o d k j 0 = o j from rfl]
  have e : evalN (fun i => cF o d k j (i + 1)) k (f a) = evalN g k (f a) := evalN_congr _ fun i hi => by
    rw [← hq i hi]; show catF 1 _ _ (i + 1) = _; unfold catF; rw [if_neg (by omega), Nat.add_sub_cancel]
  rw [e, he a ha, div_mul (xor_lt (hb a ha) ho) (h0 a ha) (hf a ha), Nat.xor_comm (b a), ← Nat.xor_assoc, Nat.xor_self, Nat.zero_xor]
end Go.Proofs.YtmhofofidmbgfaaDoor
