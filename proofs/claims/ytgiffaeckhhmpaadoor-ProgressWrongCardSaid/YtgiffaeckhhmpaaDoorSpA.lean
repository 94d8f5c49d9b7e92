/- Secrets in parts, in plain mathematics. Parts as memory has them: rows of structs of three cells; a plan that may be. Parts of the call's own: a row of structs, each with a row of bytes behind it. The parts of a secret: the contract of shamir.Split. Which parts count: the contract of shamir.needed. What the polynomials through parts are at a place: the contract of shamir.through. errors.As at a target of type *api.Errno: of nil it tells false; of an error that is an api.Errno it tells true, and the target holds its number. Cells of new and old memory. What holds behind each step of a walk that has a table. The secret of parts, and the part at a place: shamir.Combine, At. An error's number as the statements ask it. What must come whatever the input is: the law's own sure. A plan that may be, and as many draws as it needs: the law's own laid. A row of parts of the law's own: some parts, in whatever order. Bytes put together: the law's own sum; a row of bytes that is written over. Rows of parts that grow by append, whichever package's the parts are. -/
import Derived.Test.YtgiffaeckhhmpaaDoorPoLag
import Derived.Test.YtgiffaeckhhmpaaDoorApA
import Derived.Test.YtgiffaeckhhmpaaDoorPoWeights
import Derived.Test.YtgiffaeckhhmpaaDoorPoHlp
import Derived.Deep.MidRow
import Derived.Lib.Hide
import Derived.Outline
import Derived.RegionTactic
import Derived.Deep.RegionHeld3
import Derived.IntWalk
import Derived.Test.YtgiffaeckhhmpaaDoorPoPlaces
import Derived.Deep.RegionWith
import Derived.Test.YtgiffaeckhhmpaaDoorProg
import Derived.WalkKit
import Derived.LaidEql
import Derived.Stop.Asserts
import Derived.RowKitTokens
import Derived.Test.YtgiffaeckhhmpaaDoorGfA
import Derived.StillTailTactics
namespace Go.Proofs.YtgiffaeckhhmpaaDoor
set_option linter.unusedVariables false
set_option linter.unusedSimpArgs false

/-- The polynomial of byte j: the secret's byte, and its draws, k of them. -/
def cF (s d : Nat → Nat) (k j : Nat) : Nat → Nat := catF 1 (fun _ => s j) (fun i => d (j * k + i))
/-- Byte j of the part at a place. -/
def shF (s d : Nat → Nat) (k x j : Nat) : Nat := evalN (cF s d k j) (1 + k) x
theorem shF_lt (s d : Nat → Nat) (k x j : Nat) : shF s d k x j < 256 := evalN_lt _ _ _
theorem mulk_lt {j k L i : Nat} (hj : j < L) (hi : i < k) : j * k + i < L * k := Nat.lt_of_lt_of_le (show j * k + i < j * k + k by omega) (by rw [← Nat.succ_mul]; exact Nat.mul_le_mul_right k hj)
theorem cF_lt {s d : Nat → Nat} {k j L : Nat} (hs : ∀ j, j < L → s j < 256) (hd : ∀ i, i < L * k → d i < 256) (hj : j < L) : ∀ i, i < 1 + k → cF s d k j i < 256 := fun i hi => by
  unfold cF catF
  by_cases h : i < 1
  · rw [if_pos h]; exact hs j hj
  · rw [if_neg h]; exact hd _ (mulk_lt hj (by omega))
theorem evalN_at_zero (f : Nat → Nat) {n : Nat} (hn : 0 < n) (h0 : f 0 < 256) : evalN f n 0 = f 0 := by
  obtain ⟨m, rfl⟩ : ∃ m, n = m + 1 := ⟨n - 1, by omega⟩
  unfold evalN
  rw [xsum_head, xsum_none, Nat.xor_zero, powN_zero, mulN_one h0]
  intro i _
  rw [powN_succ (by decide), mulN_zero_right, mulN_zero_right]
theorem shF_secret {s d : Nat → Nat} {k j : Nat} (hs : s j < 256) : shF s d k 0 j = s j := by
  unfold shF
  rw [evalN_at_zero _ (by omega) (by unfold cF catF; rw [if_pos (by omega)]; exact hs)]
  rfl
/-- K parts of a secret at distinct places, put together at a place. -/
theorem shares_join {s d p : Nat → Nat} {k j L : Nat} (hs : ∀ j, j < L → s j < 256) (hd : ∀ i, i < L * k → d i < 256) (hj : j < L) (hp : ∀ i, i < k + 1 → p i < 256) (hne : ∀ i j, i < j → j < k + 1 → p i ≠ p j) {x : Nat} (hx : x < 256) :
    xsum (fun i => mulN (shF s d k (p i) j) (wF p i x (k + 1))) (k + 1) = shF s d k x j :=
  lagrange (c := cF s d k j) (m := 1 + k) hp hne (cF_lt hs hd hj) (by omega) hx
theorem cF_xor (s d o f : Nat → Nat) (k j i : Nat) : cF (fun j => s j ^^^ o j) (fun i => d i ^^^ f i) k j i = cF s d k j i ^^^ cF o f k j i := by
  unfold cF catF
  by_cases h : i < 1
  · rw [if_pos h, if_pos h, if_pos h]
  · rw [if_neg h, if_neg h, if_neg h]
/-- Parts of sums are sums of parts. -/
theorem shF_xor {s d o f : Nat → Nat} {k L j x : Nat} (hs : ∀ j, j < L → s j < 256) (hd : ∀ i, i < L * k → d i < 256) (ho : ∀ j, j < L → o j < 256) (hf : ∀ i, i < L * k → f i < 256) (hj : j < L) :
    shF (fun j => s j ^^^ o j) (fun i => d i ^^^ f i) k x j = shF s d k x j ^^^ shF o f k x j := by
  unfold shF
  rw [← evalN_xor (1 + k) (cF_lt hs hd hj) (cF_lt ho hf hj)]
  exact evalN_congr x fun i _ => cF_xor s d o f k j i

/-- A polynomial: its first number, and x times the rest. -/
theorem evalN_head {f : Nat → Nat} {n x : Nat} (hf : ∀ i, i < n + 1 → f i < 256) (hx : x < 256) : evalN f (n + 1) x = f 0 ^^^ mulN (evalN (fun i => f (i + 1)) n x) x := by
  unfold evalN
  rw [xsum_head, powN_zero, mulN_one (hf 0 (by omega)), xsum_mul_right x n fun i _ => mulN_lt _ _]
  congr 1
  exact xsum_congr n fun i _ => by rw [powN_succ hx, mulN_assoc]
theorem divN_mulN {a b : Nat} (ha : a < 256) (hb0 : b ≠ 0) (hb : b < 256) : divN (mulN a b) b = a := by
  have h := div_mul (a := mulN a b) (b := b) (mulN_lt _ _) hb0 hb
  have hd : divN (mulN a b) b < 256 := divN_lt _ _
  -- two numbers whose products with b are one
  have e : mulN (divN (mulN a b) b ^^^ a) b = 0 := by rw [mulN_xor_left _ hd ha, h, Nat.xor_self]
  rcases mulN_eq_zero.1 e with h0 | h0
  · exact xor_eq_zero h0
  · exact absurd h0 hb0
/-- The polynomial through places, at 0: what a place's value grows to. -/
def zF (f y : Nat → Nat) (a : Nat) : Nat → Nat | 0 => y a | k + 1 => if k = a then zF f y a k else mulN (zF f y a k) (divN (f k) (f a ^^^ f k))
theorem zF_eq {f y : Nat → Nat} {a : Nat} (hy : y a < 256) : ∀ k, zF f y a k = mulN (y a) (wF f a 0 k)
  | 0 => (mulN_one hy).symm
  | k + 1 => by
    show (if k = a then zF f y a k else mulN (zF f y a k) (divN (f k) (f a ^^^ f k))) = mulN (y a) (if k = a then wF f a 0 k else mulN (wF f a 0 k) (divN (0 ^^^ f k) (f a ^^^ f k)))
    by_cases h : k = a
    · rw [if_pos h, if_pos h, zF_eq hy k]
    · rw [if_neg h, if_neg h, zF_eq hy k, Nat.zero_xor, mulN_assoc]
theorem zF_lt {f y : Nat → Nat} {a : Nat} (hy : y a < 256) (k : Nat) : zF f y a k < 256 := by rw [zF_eq hy]; exact mulN_lt _ _
def zeroF (f y : Nat → Nat) (n : Nat) : Nat := xsum (fun a => zF f y a n) n
theorem zeroF_lt {f y : Nat → Nat} {n : Nat} (hy : ∀ a, a < n → y a < 256) : zeroF f y n < 256 := xsum_lt n fun a ha => zF_lt (hy a ha) n
theorem zeroF_of {f y g : Nat → Nat} {n m : Nat} (hf : ∀ i, i < n → f i < 256) (hne : ∀ i j, i < j → j < n → f i ≠ f j) (hg : ∀ i, i < m → g i < 256) (hm : 0 < m) (hmn : m ≤ n) (hy : ∀ a, a < n → y a = evalN g m (f a)) :
    zeroF f y n = g 0 := by
  rw [← evalN_at_zero g hm (hg 0 hm), ← lagrange hf hne hg hmn (x := 0) (by decide)]
  refine xsum_congr n fun a ha => ?_
  rw [zF_eq (by rw [hy a ha]; exact evalN_lt _ _ _), hy a ha]
/-- What is left at each place, number by number. -/
def yS (f y : Nat → Nat) (n : Nat) : Nat → Nat → Nat | 0 => y | q + 1 => fun a => divN (yS f y n q a ^^^ zeroF f (yS f y n q) n) (f a)
theorem yS_lt {f y : Nat → Nat} {n : Nat} (hy : ∀ a, a < n → y a < 256) : ∀ q a, a < n → yS f y n q a < 256
  | 0, a, ha => hy a ha
  | _ + 1, _, _ => divN_lt _ _
theorem yS_of {f y g : Nat → Nat} {n : Nat} (hf : ∀ i, i < n → f i < 256) (h0 : ∀ i, i < n → f i ≠ 0) (hne : ∀ i j, i < j → j < n → f i ≠ f j) (hg : ∀ i, i < n → g i < 256) (hy : ∀ a, a < n → y a = evalN g n (f a)) :
    ∀ q, q ≤ n → ∀ a, a < n → yS f y n q a = evalN (fun i => g (i + q)) (n - q) (f a)
  | 0, _, a, ha => hy a ha
  | q + 1, hq, a, ha => by
    have ih := yS_of hf h0 hne hg hy q (by omega)
    have hc : zeroF f (yS f y n q) n = g q := by
      rw [zeroF_of (m := n - q) (g := fun i => g (i + q)) hf hne (fun i hi => hg _ (by omega)) (by omega) (by omega) ih, Nat.zero_add]
    show divN (yS f y n q a ^^^ zeroF f (yS f y n q) n) (f a) = _
    obtain ⟨m, hm⟩ : ∃ m, n - q = m + 1 := ⟨n - q - 1, by omega⟩
    have hm2 : n - (q + 1) = m := by omega
    have e : evalN (fun i => g (i + q)) (m + 1) (f a) = g (0 + q) ^^^ mulN (evalN (fun i => g (i + 1 + q)) m (f a)) (f a) := evalN_head (f := fun i => g (i + q)) (fun i hi => hg _ (by omega)) (hf a ha)
    rw [hc, ih a ha, hm, e, hm2, Nat.zero_add, Nat.xor_comm (g q), Nat.xor_assoc, Nat.xor_self, Nat.xor_zero, divN_mulN (evalN_lt _ _ _) (h0 a ha) (hf a ha)]
    exact evalN_congr _ fun i _ => by rw [show i + 1 + q = i + (q + 1) by omega]
theorem zero_of {f y g : Nat → Nat} {n q : Nat} (hf : ∀ i, i < n → f i < 256) (h0 : ∀ i, i < n → f i ≠ 0) (hne : ∀ i j, i < j → j < n → f i ≠ f j) (hg : ∀ i, i < n → g i < 256) (hy : ∀ a, a < n → y a = evalN g n (f a)) (hq : q < n) :
    zeroF f (yS f y n q) n = g q := by
  rw [zeroF_of (m := n - q) (g := fun i => g (i + q)) hf hne (fun i hi => hg _ (by omega)) (by omega) (by omega) (yS_of hf h0 hne hg hy q (by omega)), Nat.zero_add]
/-- Through whatever values goes a polynomial. -/
theorem interp_is_poly {f y : Nat → Nat} {n : Nat} (hf : ∀ i, i < n → f i < 256) (hne : ∀ i j, i < j → j < n → f i ≠ f j) (hy : ∀ a, a < n → y a < 256) : ∃ g : Nat → Nat, (∀ i, g i < 256) ∧ ∀ a, a < n → evalN g n (f a) = y a := by
  have hP : ∀ i, i < n → ∃ g : Nat → Nat, (∀ j, g j < 256) ∧ ∀ x, x < 256 → wF f i x n = evalN g n x := fun i hi => by
    obtain ⟨g, h1, h2⟩ := wF_poly hf hi hne n (Nat.le_refl _)
    exact ⟨g, h1, fun x hx => by rw [h2 x hx, if_pos hi]⟩
  have hG : ∃ G : Nat → Nat → Nat, (∀ i j, G i j < 256) ∧ ∀ i, i < n → ∀ x, x < 256 → wF f i x n = evalN (G i) n x := by
    refine ⟨fun i => if h : i < n then (hP i h).choose else fun _ => 0, fun i j => ?_, fun i hi x hx => ?_⟩
    · by_cases h : i < n
      · simp only [dif_pos h]; exact (hP i h).choose_spec.1 j
      · simp only [dif_neg h]; decide
    · have h2 := (hP i hi).choose_spec.2 x hx
      simp only [dif_pos hi]; exact h2
  obtain ⟨G, hG1, hG2⟩ := hG
  refine ⟨fun j => xsum (fun i => mulN (y i) (G i j)) n, fun j => xsum_lt n fun _ _ => mulN_lt _ _, fun a ha => ?_⟩
  rw [evalN_sum n (hf a ha) hG1, xsum_one (k := a) n ha fun i hi hia => ?_]
  · rw [← hG2 a ha _ (hf a ha), wF_own hf ha hne n (Nat.le_refl _), mulN_one (hy a ha)]
  · rw [← hG2 i hi _ (hf a ha), wF_zero (fun e => hia e.symm) n ha, mulN_zero_right]
/-- The draws by which a secret (its byte z) has some parts' bytes. -/
def drawF (f b : Nat → Nat) (z k q : Nat) : Nat := zeroF f (yS f (fun a => divN (b a ^^^ z) (f a)) k q) k
theorem drawF_lt (f b : Nat → Nat) (z k q : Nat) : drawF f b z k q < 256 := zeroF_lt fun a ha => yS_lt (fun _ _ => divN_lt _ _) q a ha
theorem drawF_back {s d f : Nat → Nat} {k j L q : Nat} (hs : ∀ j, j < L → s j < 256) (hd : ∀ i, i < L * k → d i < 256) (hj : j < L) (hf : ∀ i, i < k → f i < 256) (h0 : ∀ i, i < k → f i ≠ 0) (hne : ∀ i j, i < j → j < k → f i ≠ f j) (hq : q < k) :
    drawF f (fun a => shF s d k (f a) j) (s j) k q = d (j * k + q) := by
  unfold drawF
  refine zero_of (g := fun i => d (j * k + i)) hf h0 hne (fun i hi => hd _ (mulk_lt hj hi)) (fun a ha => ?_) hq
  show divN (evalN (cF s d k j) (1 + k) (f a) ^^^ s j) (f a) = _
  rw [Nat.add_comm 1 k, evalN_head (fun i hi => cF_lt hs hd hj i (by omega)) (hf a ha), show cF s d k j 0 = s j from rfl, Nat.xor_comm (s j), Nat.xor_assoc, Nat.xor_self, Nat.xor_zero, divN_mulN (evalN_lt _ _ _) (h0 a ha) (hf a ha)]
  exact evalN_congr _ fun i _ => by show catF 1 _ _ (i + 1) = _; unfold catF; rw [if_neg (by omega), Nat.add_sub_cancel]
theorem drawF_there {o f b : Nat → Nat} {d : Nat → Nat} {k j : Nat} (ho : o j < 256) (hb : ∀ a, a < k → b a < 256) (hf : ∀ i, i < k → f i < 256) (h0 : ∀ i, i < k → f i ≠ 0) (hne : ∀ i j, i < j → j < k → f i ≠ f j)
    (hd : ∀ q, q < k → d (j * k + q) = drawF f b (o j) k q) {a : Nat} (ha : a < k) : shF o d k (f a) j = b a := by
  obtain ⟨g, hg, he⟩ := interp_is_poly (y := fun a => divN (b a ^^^ o j) (f a)) hf hne (fun a _ => divN_lt _ _)
  have hq : ∀ q, q < k → d (j * k + q) = g q := fun q hq => by
    rw [hd q hq]
    exact zero_of hf h0 hne (fun i _ => hg i) (fun a ha => (he a ha).symm) hq
  have hc : ∀ i, i < k + 1 → cF o d k j i < 256 := fun i hi => by
    unfold cF catF
    by_cases h : i < 1
    · rw [if_pos h]; exact ho
    · rw [if_neg h]; show d (j * k + (i - 1)) < 256; rw [hq _ (by omega)]; exact hg _
  unfold shF
  rw [Nat.add_comm 1 k, evalN_head hc (hf a ha), show cF o d k j 0 = o j from rfl]
  have e : evalN (fun i => cF o d k j (i + 1)) k (f a) = evalN g k (f a) := evalN_congr _ fun i hi => by
    rw [← hq i hi]; show catF 1 _ _ (i + 1) = _; unfold catF; rw [if_neg (by omega), Nat.add_sub_cancel]
  rw [e, he a ha, div_mul (xor_lt (hb a ha) ho) (h0 a ha) (hf a ha), Nat.xor_comm (b a), ← Nat.xor_assoc, Nat.xor_self, Nat.zero_xor]
end Go.Proofs.YtgiffaeckhhmpaaDoor
namespace Go.Proofs.YtgiffaeckhhmpaaDoor
set_option linter.unusedVariables false
set_option linter.unusedSimpArgs false
open Go.RowKit

/-- A part: its place, its generation, its bytes. -/
structure Sh where
  ix : Nat
  gen : Nat
  len : Nat
  f : Nat → Nat
instance : Inhabited Sh := ⟨⟨0, 0, 0, fun _ => 0⟩⟩
/-- Three cells that are a part's; its bytes lie in no block tb. -/
def IsSh (tb : Nat) (w : World) (C : List Value) (s : Sh) : Prop := ∃ oa cap, C = [.int .u8 (s.ix : Int), .int .u32 (s.gen : Int), .slice oa s.len cap] ∧ Bytes w oa s.len s.f ∧ (oa = none → s.len = 0) ∧ s.len ≤ cap ∧ cap ≤ maxLen ∧ Apart tb oa s.len
theorem IsSh.later {tb : Nat} {w w' : World} {C : List Value} {s : Sh} (h : IsSh tb w C s) (hb : Below w.heap.size w w') : IsSh tb w' C s := by
  obtain ⟨oa, cap, hC, hB, h1, h2⟩ := h
  exact ⟨oa, cap, hC, hB.later hb, h1, h2⟩
theorem IsSh.own {tb : Nat} {w w' : World} {C : List Value} {s : Sh} (h : IsSh tb w C s) (hO : Own tb w w') : IsSh tb w' C s := by
  obtain ⟨oa, cap, hC, hB, h1, h2, h3, h4⟩ := h
  exact ⟨oa, cap, hC, hB.own hO h4, h1, h2, h3, h4⟩
/-- n parts lie behind an address, in no block tb. -/
def Shs (tb : Nat) (w : World) (oa : Option Addr) (n : Nat) (S : Nat → Sh) : Prop := ∀ i, i < n → ∃ b off C, oa = some ⟨b, off, none⟩ ∧ b ≠ tb ∧ IsSh tb w C (S i) ∧ ∀ j, j < 3 → w.cell? ⟨b, off + i * 3 + j, none⟩ = C[j]?
theorem Shs.mono {tb : Nat} {w : World} {oa : Option Addr} {n m : Nat} {S : Nat → Sh} (h : Shs tb w oa n S) (hm : m ≤ n) : Shs tb w oa m S := fun i hi => h i (by omega)
theorem Shs.own {tb : Nat} {w w' : World} {oa : Option Addr} {n : Nat} {S : Nat → Sh} (h : Shs tb w oa n S) (hO : Own tb w w') : Shs tb w' oa n S := fun i hi => by
  obtain ⟨b, off, C, h1, hne, h2, h3⟩ := h i hi
  refine ⟨b, off, C, h1, hne, h2.own hO, fun j hj => ?_⟩
  obtain ⟨oa', cap, rfl, _⟩ := h2
  match j, hj with
  | 0, _ => exact hO.cell (h3 0 (by omega)) hne
  | 1, _ => exact hO.cell (h3 1 (by omega)) hne
  | 2, _ => exact hO.cell (h3 2 (by omega)) hne
theorem Shs.later {tb : Nat} {w w' : World} {oa : Option Addr} {n : Nat} {S : Nat → Sh} (h : Shs tb w oa n S) (hb : Below w.heap.size w w') : Shs tb w' oa n S := h.own (Own.of_below hb)
theorem Shs.get {tb : Nat} {w : World} {oa : Option Addr} {n : Nat} {S : Nat → Sh} (h : Shs tb w oa n S) (i : Nat) (hi : i < n) : ∃ b off od cap, oa = some ⟨b, off, none⟩ ∧ b ≠ tb ∧ Bytes w od (S i).len (S i).f ∧ (od = none → (S i).len = 0) ∧ (S i).len ≤ cap ∧ cap ≤ maxLen ∧ Apart tb od (S i).len ∧
    w.cell? ⟨b, off + i * 3, none⟩ = some (.int .u8 ((S i).ix : Int)) ∧ w.cell? ⟨b, off + i * 3 + 1, none⟩ = some (.int .u32 ((S i).gen : Int)) ∧ w.cell? ⟨b, off + i * 3 + 2, none⟩ = some (.slice od (S i).len cap) := by
  obtain ⟨b, off, C, h1, hne, ⟨oa', cap, hC, hB, hno, hl, hm, hA⟩, h3⟩ := h i hi
  subst hC
  exact ⟨b, off, oa', cap, h1, hne, hB, hno, hl, hm, hA, h3 0 (by omega), h3 1 (by omega), h3 2 (by omega)⟩
/-- May a plan be? -/
def MayP (K N : Int) : Prop := 2 ≤ K ∧ K ≤ N ∧ N ≤ 255

set_option maxHeartbeats 400000 in
theorem check_yes (K N g : Int) (w : World) (h : MayP K N) :
    Calls Tryd.prog 20 #[.agg #[.int .i64 K, .int .i64 N, .int .u32 g]] w fun e w' => e = .returned .nilIface ∧ Below w.heap.size w w' := by
  obtain ⟨h0, h1, h2⟩ := h
  have d0 : decide (K < 2) = false := decide_eq_false (by omega)
  have d1 : decide (N < K) = false := decide_eq_false (by omega)
  have d2 : decide (255 < N) = false := decide_eq_false (by omega)
  go_enter Tryd.func20, Tryd.ntmps20
  go_wp2_with fail
  go_ret
  exact ⟨rfl, (Below.refl _ _).alloc (Nat.le_refl _) _⟩
set_option maxHeartbeats 400000 in
theorem check_no (K N g : Int) (w : World) (h : ¬ MayP K N) :
    Calls Tryd.prog 20 #[.agg #[.int .i64 K, .int .i64 N, .int .u32 g]] w fun e w' => e = .returned (.iface 83 (.int .i64 1)) ∧ Below w.heap.size w w' := by
  by_cases h0 : K < 2
  · clear h
    go_enter Tryd.func20, Tryd.ntmps20
    go_wp2_with fail
    go_ret
    exact ⟨rfl, (Below.refl _ _).alloc (Nat.le_refl _) _⟩
  · have d0 : decide (K < 2) = false := decide_eq_false h0
    by_cases h1 : N < K
    · clear h h0
      go_enter Tryd.func20, Tryd.ntmps20
      go_wp2_with fail
      go_ret
      exact ⟨rfl, (Below.refl _ _).alloc (Nat.le_refl _) _⟩
    · have d1 : decide (N < K) = false := decide_eq_false h1
      have h2 : 255 < N := by
        rcases Int.lt_or_le 255 N with h2 | h2
        · exact h2
        · exact absurd ⟨by omega, by omega, h2⟩ h
      clear h h0 h1
      go_enter Tryd.func20, Tryd.ntmps20
      go_wp2_with fail
      go_ret
      exact ⟨rfl, (Below.refl _ _).alloc (Nat.le_refl _) _⟩
set_option maxHeartbeats 400000 in
theorem may_yes (K N g : Int) (w : World) (h : MayP K N) :
    Calls Tryd.prog 32 #[.agg #[.int .i64 K, .int .i64 N, .int .u32 g]] w fun e w' => e = .returned (.bool true) ∧ Below w.heap.size w w' := by
  obtain ⟨h0, h1, h2⟩ := h
  go_enter Tryd.func32, Tryd.ntmps32
  go_wp2_with fail
  go_ret
  exact ⟨rfl, (Below.refl _ _).alloc (Nat.le_refl _) _⟩
set_option maxHeartbeats 400000 in
theorem may_no (K N g : Int) (w : World) (h : ¬ MayP K N) :
    Calls Tryd.prog 32 #[.agg #[.int .i64 K, .int .i64 N, .int .u32 g]] w fun e w' => e = .returned (.bool false) ∧ Below w.heap.size w w' := by
  by_cases h0 : 2 ≤ K
  · by_cases h1 : K ≤ N
    · have d2 : decide (N ≤ 255) = false := decide_eq_false fun h2 => h ⟨h0, h1, h2⟩
      clear h
      go_enter Tryd.func32, Tryd.ntmps32
      go_wp2_with fail
      go_ret
      exact ⟨rfl, (Below.refl _ _).alloc (Nat.le_refl _) _⟩
    · have d1 : decide (K ≤ N) = false := decide_eq_false h1
      clear h h1
      go_enter Tryd.func32, Tryd.ntmps32
      go_wp2_with fail
      go_ret
      exact ⟨rfl, (Below.refl _ _).alloc (Nat.le_refl _) _⟩
  · have d0 : decide (2 ≤ K) = false := decide_eq_false h0
    clear h h0
    go_enter Tryd.func32, Tryd.ntmps32
    go_wp2_with fail
    go_ret
    exact ⟨rfl, (Below.refl _ _).alloc (Nat.le_refl _) _⟩
set_option maxHeartbeats 400000 in
theorem fits_yes (n : Nat) (w : World) (h1 : 1 ≤ n) (h2 : n ≤ 64) :
    Calls Tryd.prog 21 #[.int .i64 (n : Int)] w fun e w' => e = .returned (.bool true) ∧ w = w' := by
  have d1 : (1 : Int) ≤ (n : Int) := by omega
  have d2 : (n : Int) ≤ 64 := by omega
  go_enter Tryd.func21, Tryd.ntmps21
  go_wp2_with fail
  go_ret
  exact ⟨rfl, rfl⟩
set_option maxHeartbeats 400000 in
theorem fits_no (n : Nat) (w : World) (h : ¬ (1 ≤ n ∧ n ≤ 64)) :
    Calls Tryd.prog 21 #[.int .i64 (n : Int)] w fun e w' => e = .returned (.bool false) ∧ w = w' := by
  by_cases h1 : 1 ≤ n
  · have d1 : (1 : Int) ≤ (n : Int) := by omega
    have d2 : decide ((n : Int) ≤ 64) = false := decide_eq_false (by omega)
    clear h
    go_enter Tryd.func21, Tryd.ntmps21
    go_wp2_with fail
    go_ret
    exact ⟨rfl, rfl⟩
  · obtain rfl : n = 0 := by omega
    clear h h1
    go_enter Tryd.func21, Tryd.ntmps21
    go_wp2_with fail
    go_ret
    exact ⟨rfl, rfl⟩
end Go.Proofs.YtgiffaeckhhmpaaDoor
namespace Go.Proofs.YtgiffaeckhhmpaaDoor
set_option linter.unusedVariables false
set_option linter.unusedSimpArgs false
open Go.RowKit

theorem info_share : (Tryd.prog.info? 42).map (fun i => (i.zero, i.size, i.bytes)) = some (some (.agg #[.int .u8 0, .int .u32 0, .slice none 0 0]), 3, 32) := by kernel_rfl
theorem info_share3 : (Tryd.prog.info? 42).map (·.size) = some 3 := by kernel_rfl
def zsh : List Value := [.int .u8 0, .int .u32 0, .slice none 0 0]
theorem made3 (N : Nat) (a b c : Value) : madeCells #[a, b, c] (N * 3) = (rws N (fun _ => [a, b, c])).toArray := by
  have hl : (rws N (fun _ => [a, b, c])).length = N * 3 := rws_len (k := 3) (C := fun _ => [a, b, c]) fun _ _ => rfl
  refine Array.ext_getElem? fun j => ?_
  by_cases hj : j < N * 3
  · have e := rws_get (k := 3) (C := fun _ => [a, b, c]) (n := N) (fun _ _ => rfl) (i := j / 3) (j := j % 3) (by omega) (Nat.mod_lt _ (by decide))
    rw [show j / 3 * 3 + j % 3 = j by omega] at e
    have h1 : (madeCells #[a, b, c] (N * 3))[j]? = some ((#[a, b, c] : Array Value)[j % 3]!) := by
      rw [Array.getElem?_eq_getElem (by rw [size_madeCells]; exact hj)]; simp [madeCells]
    rw [h1, List.getElem?_toArray, e]
    have h3 := Nat.mod_lt j (show 0 < 3 by decide)
    clear e h1
    obtain ⟨r, hr⟩ : ∃ r, j % 3 = r := ⟨_, rfl⟩
    rw [hr] at h3 ⊢
    match r, h3 with
    | 0, _ => rfl
    | 1, _ => rfl
    | 2, _ => rfl
  · rw [Array.getElem?_eq_none (by rw [size_madeCells]; omega), Array.getElem?_eq_none (by rw [List.size_toArray, hl]; omega)]
theorem make_shares (N : Nat) (hN : N ≤ 255) (w : World) : (Instr.makeSlice 29 (.int .i64 (N : Int)) (.int .i64 (N : Int))).run Tryd.prog w = .ok (.slice (some ⟨w.heap.size, 0, none⟩) N N) (w.alloc (.cells (rws N (fun _ => zsh)).toArray 42)) := by
  obtain ⟨i0, hi, hz0, hz1, hz2⟩ := info_parts info_share
  have h := run_make (P := Tryd.prog) w 29 42 i0 _ Tryd.underlying29 hi hz0 .i64 .i64 (N : Int) (N : Int) (by omega) (Int.le_refl _) (by rw [hz2]; omega) (by omega)
  rw [Int.toNat_natCast, hz1, show (Value.agg #[.int .u8 0, .int .u32 0, .slice none 0 0]).cells = #[.int .u8 0, .int .u32 0, .slice none 0 0] from rfl, made3] at h
  exact h
theorem wpList_mkS {ops : Array Oper} {rest : List Oper} {o : Oper} {a : Act} {w : World} {Q : Exit → Act → World → Prop} (hgd : o.guard = none) (x y : Operand) (ho : o.op = .makeSlice 29 x y) (N : Nat) (hx : a.eval x = .int .i64 (N : Int)) (hy : a.eval y = .int .i64 (N : Int)) (hN : N ≤ 255)
    (h : wpList Tryd.prog ops Q rest (a.put o.dst (.slice (some ⟨w.heap.size, 0, none⟩) N N)) (w.alloc (.cells (rws N (fun _ => zsh)).toArray 42))) : wpList Tryd.prog ops Q (o :: rest) a w := by
  refine wpList_plain hgd fun K hK => ?_
  have hrun := make_shares N hN w
  unfold Oper.wp
  simp [execOp, ho, hx, hy, hrun, Result.andThen]
  exact hK _ _ h
theorem step_storeM {ops : Array Oper} {o : Oper} {a : Act} {w : World} {K : Act → World → Prop} {Q : Exit → Act → World → Prop} {E : Prop} (hgd : o.guard = none) (ty : TypeId) (x y : Operand) (ho : o.op = .store ty x y) (b off : Nat) (cells : Array Value) (hx : a.eval x = .pointer (some ⟨b, off, none⟩)) (hy : a.eval y = .agg cells)
    (ht : w.there b off cells.size) (hi : (Tryd.prog.info? ty).map (·.size) = some cells.size) (h1 : cells.all (·.oneCell') = true) (h : K (a.put o.dst undef) (w.setCells b off cells.toList)) : if Region.wanted o (yielded ops a.tmps) = true then Oper.wp Tryd.prog o a w K Q else E := by
  have hw : Region.wanted o (yielded ops a.tmps) = true := by simp [Region.wanted, hgd]
  rw [if_pos hw]
  exact wp_store_mid ty x y ho b off cells hx hy ht hi h1 h
theorem rws_set3 {N i : Nat} {C : Nat → List Value} (hC : ∀ i, i < N → (C i).length = 3) (hi : i < N) (a b c : Value) : (((rws N C).set (i * 3) a).set (i * 3 + 1) b).set (i * 3 + 1 + 1) c = rws N (fun q => if q = i then [a, b, c] else C q) := by
  have h0 := rws_set (j := 0) (v := a) hC hi (by decide)
  have hC1 : ∀ q, q < N → ((fun q => if q = i then (C i).set 0 a else C q) q).length = 3 := fun q hq => by
    show (if q = i then (C i).set 0 a else C q).length = 3
    split
    · rw [List.length_set]; exact hC i hi
    · exact hC q hq
  have h1 := rws_set (j := 1) (v := b) hC1 hi (by decide)
  have hC2 : ∀ q, q < N → ((fun q => if q = i then ((fun q => if q = i then (C i).set 0 a else C q) i).set 1 b else (fun q => if q = i then (C i).set 0 a else C q) q) q).length = 3 := fun q hq => by
    show (if q = i then ((if i = i then (C i).set 0 a else C i)).set 1 b else (if q = i then (C i).set 0 a else C q)).length = 3
    rw [if_pos rfl]
    split
    · rw [List.length_set, List.length_set]; exact hC i hi
    · exact hC q hq
  have h2 := rws_set (j := 2) (v := c) hC2 hi (by decide)
  rw [Nat.add_zero] at h0
  rw [h0, h1, show i * 3 + 1 + 1 = i * 3 + 2 by omega, h2]
  refine rws_congr fun q hq => ?_
  by_cases e : q = i
  · subst e
    simp only [if_true]
    have hl := hC q hq
    match hc : C q, hl with
    | [x, y, z], _ => rfl
  · simp only [if_neg e]
theorem Blk.thereM {w : World} {b o n : Nat} {D : Array Value} {t : TypeId} (h : Blk w b D t) (hn : o + n ≤ D.size) : w.there b o n := fun j hj => by
  rw [Blk.cell h, Blk.free h, Array.getElem?_eq_getElem (by omega)]
  exact ⟨rfl, rfl⟩
/-- One part of three cells, in the middle of a row. -/
theorem Blk.set3 {w : World} {b N i : Nat} {C : Nat → List Value} {t : TypeId} (h : Blk w b (rws N C).toArray t) (hC : ∀ i, i < N → (C i).length = 3) (hi : i < N) (x y z : Value) : Blk (w.setCells b (i * 3) [x, y, z]) b (rws N (fun q => if q = i then [x, y, z] else C q)).toArray t := by
  have h3 := ((h.set (i * 3) x).set (i * 3 + 1) y).set (i * 3 + 1 + 1) z
  rw [List.setIfInBounds_toArray, List.setIfInBounds_toArray, List.setIfInBounds_toArray, rws_set3 hC hi] at h3
  exact h3
theorem rws_size3 {N : Nat} {C : Nat → List Value} (hC : ∀ i, i < N → (C i).length = 3) : (rws N C).toArray.size = N * 3 := by
  rw [List.size_toArray, rws_len hC]

/-- The cells of part x of a row at H, as Split lays it. -/
def shC (gen H L : Nat) (x : Nat) : List Value := [.int .u8 ((x : Int) + 1), .int .u32 (gen : Int), .slice (some ⟨H + 1 + x, 0, none⟩) L L]
/-- The first i of them, noughts behind. -/
def mkC (gen H L i : Nat) (x : Nat) : List Value := if x < i then shC gen H L x else zsh
theorem mkC_len (gen H L i x : Nat) : (mkC gen H L i x).length = 3 := by unfold mkC; split <;> rfl
theorem mkC_step (gen H L i : Nat) : (fun q => if q = i then shC gen H L i else mkC gen H L i q) = mkC gen H L (i + 1) := by
  funext q
  unfold mkC
  by_cases e : q = i
  · subst e; rw [if_pos rfl, if_pos (by omega)]
  · rw [if_neg e]
    by_cases h : q < i
    · rw [if_pos h, if_pos (by omega)]
    · rw [if_neg h, if_neg (by omega)]
theorem shC_len (gen H L x : Nat) : (shC gen H L x).length = 3 := rfl
/-- The row under way: the first i parts, each with a row of noughts. -/
structure SM (wA : World) (N L gen i : Nat) (w : World) : Prop where
  blk : Blk w wA.heap.size (rws N (mkC gen wA.heap.size L i)).toArray 42
  rows : ∀ x, x < i → Row w (wA.heap.size + 1 + x) L (fun _ => 0)
  size : w.heap.size = wA.heap.size + 1 + i
  bel : Below wA.heap.size wA w
theorem SM.start (wA : World) (N L gen : Nat) : SM wA N L gen 0 (wA.alloc (.cells (rws N (fun _ => zsh)).toArray 42)) :=
  ⟨by have := Blk.new wA (rws N (fun _ => zsh)).toArray 42; rw [show (fun _ => zsh) = mkC gen wA.heap.size L 0 from by funext x; unfold mkC; rw [if_neg (Nat.not_lt_zero _)]] at this ⊢; exact this,
    fun x hx => absurd hx (Nat.not_lt_zero _), by simp, (Below.refl _ _).alloc (Nat.le_refl _) _⟩
theorem SM.drew {wA w : World} {N L gen i : Nat} (h : SM wA N L gen i w) : SM wA N L gen i w.drew := ⟨h.blk, h.rows, h.size, ⟨h.bel.os, h.bel.tape, h.bel.output, h.bel.size, h.bel.block⟩⟩
theorem SM.next {wA w : World} {N L gen i : Nat} (h : SM wA N L gen i w) (hi : i < N) : SM wA N L gen (i + 1) ((w.alloc (.cells (rowC L (fun _ => 0)).toArray 5)).setCells wA.heap.size (i * 3) (shC gen wA.heap.size L i)) := by
  have hb : Below w.heap.size w (w.alloc (.cells (rowC L (fun _ => 0)).toArray 5)) := (Below.refl _ _).alloc (Nat.le_refl _) _
  have hB := (Blk.below h.blk hb (Blk.lt h.blk)).set3 (fun _ _ => mkC_len _ _ _ _ _) hi (.int .u8 ((i : Int) + 1)) (.int .u32 (gen : Int)) (.slice (some ⟨wA.heap.size + 1 + i, 0, none⟩) L L)
  have hO : Own wA.heap.size (w.alloc (.cells (rowC L (fun _ => 0)).toArray 5)) _ := Own.setCells (b := wA.heap.size) (shC gen wA.heap.size L i) (i * 3) _
  refine ⟨?_, fun x hx => ?_, ?_, ?_⟩
  · rw [← mkC_step]; exact hB
  · by_cases e : x = i
    · subst e
      have := (row_new w L (fun _ => 0)).own hO (by rw [h.size]; omega)
      rw [h.size] at this; exact this
    · exact ((h.rows x (by omega)).later hb).own hO (by omega)
  · have h1 : (World.setCells (w.alloc (.cells (rowC L (fun _ => 0)).toArray 5)) wA.heap.size (i * 3) (shC gen wA.heap.size L i)).heap.size = (w.alloc (.cells (rowC L (fun _ => 0)).toArray 5)).heap.size := by
      show ((((w.alloc _).setCell _ _).setCell _ _).setCell _ _).heap.size = _
      simp [World.setCell]
    rw [h1]; simp; rw [h.size]; omega
  · exact h.bel.trans (((hb.mono (by rw [h.size]; omega)).trans (hO.below (Nat.le_refl _) (by simp; rw [h.size]; omega))))
/-- The row, each part with its bytes. -/
structure SR (tb : Nat) (wA : World) (N L gen : Nat) (F : Nat → Nat → Nat) (w : World) : Prop where
  blk : Blk w wA.heap.size (rws N (shC gen wA.heap.size L)).toArray 42
  rows : ∀ x, x < N → Row w (wA.heap.size + 1 + x) L (F x)
  big : wA.heap.size + 1 + N ≤ w.heap.size
  tab : TabIn w tb
  own : Own tb wA w
  low : tb < wA.heap.size
theorem SR.of_made {tb : Nat} {wA w : World} {N L gen : Nat} (h : SM wA N L gen N w) (hT : TabIn wA tb) : SR tb wA N L gen (fun _ _ => 0) w :=
  ⟨by have := h.blk; rw [rws_congr (D := shC gen wA.heap.size L) fun x hx => by unfold mkC; rw [if_pos hx]] at this; exact this, h.rows, Nat.le_of_eq h.size.symm, hT.below h.bel, Own.of_below h.bel, hT.lt⟩
theorem SR.later {tb : Nat} {wA w w' : World} {N L gen : Nat} {F : Nat → Nat → Nat} (h : SR tb wA N L gen F w) (hb : Below w.heap.size w w') : SR tb wA N L gen F w' :=
  ⟨Blk.below h.blk hb (Blk.lt h.blk), fun x hx => (h.rows x hx).later hb, Nat.le_trans h.big hb.size, h.tab.below hb, h.own.trans (Own.of_below hb), h.low⟩
theorem SR.left {tb : Nat} {wA w w' : World} {N L gen : Nat} {F : Nat → Nat → Nat} (h : SR tb wA N L gen F w) (hl : Left tb w w') : SR tb wA N L gen F w' :=
  ⟨hl.2.blk h.blk (by have := h.low; omega), fun x hx => (h.rows x hx).own hl.2 (by have := h.low; omega), Nat.le_trans h.big hl.2.size, hl.1, h.own.trans hl.2, h.low⟩
theorem SR.drew {tb : Nat} {wA w : World} {N L gen : Nat} {F : Nat → Nat → Nat} (h : SR tb wA N L gen F w) : SR tb wA N L gen F w.drew := ⟨h.blk, h.rows, h.big, h.tab, h.own.drew, h.low⟩
theorem SR.alloc {tb : Nat} {wA w : World} {N L gen : Nat} {F : Nat → Nat → Nat} (h : SR tb wA N L gen F w) (o : Obj) : SR tb wA N L gen F (w.alloc o) := h.later ((Below.refl _ _).alloc (Nat.le_refl _) _)
/-- One byte of one part. -/
def updS (F : Nat → Nat → Nat) (x j v : Nat) : Nat → Nat → Nat := fun y => if y = x then upd (F x) j v else F y
theorem SR.set {tb : Nat} {wA w : World} {N L gen : Nat} {F : Nat → Nat → Nat} (h : SR tb wA N L gen F w) {x : Nat} (hx : x < N) (j v : Nat) : SR tb wA N L gen (updS F x j v) (w.setCell ⟨wA.heap.size + 1 + x, j, none⟩ (.int .u8 (v : Nat))) := by
  have hO : Own (wA.heap.size + 1 + x) w (w.setCell ⟨wA.heap.size + 1 + x, j, none⟩ (.int .u8 (v : Nat))) := (Own.refl _ _).set j _
  refine ⟨hO.blk h.blk (by omega), fun y hy => ?_, Nat.le_trans h.big hO.size, h.tab.own hO (by have := h.low; omega), ?_, h.low⟩
  · unfold updS
    by_cases e : y = x
    · subst e; rw [if_pos rfl]; exact (h.rows y hy).set j v
    · rw [if_neg e]; exact (h.rows y hy).own hO (by omega)
  · exact ⟨hO.os.trans h.own.os, hO.tape.trans h.own.tape, hO.output.trans h.own.output, Nat.le_trans h.own.size hO.size, fun k hk hn => (hO.block k (by have := h.own.size; omega) (by omega)).trans (h.own.block k hk hn)⟩
theorem SR.congr {tb : Nat} {wA w : World} {N L gen : Nat} {F G : Nat → Nat → Nat} (h : SR tb wA N L gen F w) (he : ∀ x j, x < N → j < L → F x j = G x j) : SR tb wA N L gen G w :=
  ⟨h.blk, fun x hx => (h.rows x hx).congr fun j hj => he x j hx hj, h.big, h.tab, h.own, h.low⟩
theorem SR.cells {tb : Nat} {wA w : World} {N L gen : Nat} {F : Nat → Nat → Nat} (h : SR tb wA N L gen F w) {i : Nat} (hi : i < N) : w.cell? ⟨wA.heap.size, i * 3, none⟩ = some (.int .u8 ((i + 1 : Nat) : Int)) ∧ w.cell? ⟨wA.heap.size, i * 3 + 1, none⟩ = some (.int .u32 (gen : Int)) ∧ w.cell? ⟨wA.heap.size, i * 3 + 2, none⟩ = some (.slice (some ⟨wA.heap.size + 1 + i, 0, none⟩) L L) := by
  have g := fun j (hj : j < 3) => rws_get (k := 3) (C := shC gen wA.heap.size L) (fun _ _ => rfl) hi hj
  exact ⟨by rw [Blk.cell h.blk, List.getElem?_toArray]; exact g 0 (by omega), by rw [Blk.cell h.blk, List.getElem?_toArray]; exact g 1 (by omega), by rw [Blk.cell h.blk, List.getElem?_toArray]; exact g 2 (by omega)⟩
/-- They are parts. -/
theorem SR.shs {tb : Nat} {wA w : World} {N L gen : Nat} {F : Nat → Nat → Nat} (h : SR tb wA N L gen F w) (hF : ∀ x j, x < N → j < L → F x j < 256) (hL : L ≤ maxLen) : Shs tb w (some ⟨wA.heap.size, 0, none⟩) N (fun x => ⟨x + 1, gen, L, F x⟩) := fun i hi => by
  obtain ⟨c0, c1, c2⟩ := h.cells hi
  have hlo := h.low
  refine ⟨wA.heap.size, 0, _, rfl, by omega, ⟨some ⟨wA.heap.size + 1 + i, 0, none⟩, L, rfl, (h.rows i hi).bytes fun j hj => hF i j hi hj, (fun e => by cases e), Nat.le_refl _, hL, Apart.of_ne (by omega)⟩, fun j hj => ?_⟩
  rw [Nat.zero_add]
  match j, hj with
  | 0, _ => exact c0
  | 1, _ => exact c1
  | 2, _ => exact c2
end Go.Proofs.YtgiffaeckhhmpaaDoor
namespace Go.Proofs.YtgiffaeckhhmpaaDoor
set_option linter.unusedVariables false
set_option linter.unusedSimpArgs false
open Go.RowKit

theorem exec_buildM {o : Oper} {a : Act} {w : World} {ty : TypeId} {C : Array Value} {parts : Array (Nat × Operand)} {ps : Array (Nat × Value)} (ho : o.op = .build ty parts) (hp : (parts.map fun (i, x) => (i, a.eval x)) = ps) (h : ∀ w, (Instr.build ty ps).run Tryd.prog w = .ok (.agg C) w) : (execOp a.eval o).run Tryd.prog w = .ok (.value (.agg C)) w := by
  unfold execOp
  simp only [ho, hp, Sem.run_bind, h, Result.andThen_ok]
  rfl
theorem build_share (x g : Int) (oa : Option Addr) (n c : Nat) (w : World) : (Instr.build 42 #[(0, .int .u8 x), (1, .int .u32 g), (2, .slice oa n c)]).run Tryd.prog w = .ok (.agg #[.int .u8 x, .int .u32 g, .slice oa n c]) w := run_build w 42 _ _ (by kernel_rfl)
theorem one_share (a b : Int) (k k2 : IntKind) (oa : Option Addr) (n c : Nat) : (#[Value.int k a, Value.int k2 b, Value.slice oa n c] : Array Value).all (·.oneCell') = true := all_oneCell_toArray fun v hv => by
  simp at hv
  rcases hv with rfl | rfl | rfl <;> rfl
theorem Grow.lit {w : World} {base g n : Nat} {f : Nat → Nat} (h : Blk w g (rowC n f).toArray 5) (hb : base ≤ g) (hn : n ≤ maxLen) : Grow w base (.slice (some ⟨g, 0, none⟩) n n) n f :=
  ⟨by rw [rowC_len, Nat.mul_one], .inr ⟨g, n, (rowC n f).toArray, rfl, hb, h, Nat.le_refl _, hn, by rw [List.size_toArray, rowC_len, Nat.mul_one], by rw [Nat.mul_one, List.take_of_length_le]; rw [rowC_len]; exact Nat.le_refl _⟩⟩
/-- What lies in the rows: all of the first j bytes, of byte j that of the first i parts. -/
def nF (V : Nat → Nat → Nat) (j i : Nat) : Nat → Nat → Nat := fun x y => if y < j ∨ y = j ∧ x < i then V x y else 0
theorem nF_step {V : Nat → Nat → Nat} {j i v : Nat} (hv : V i j = v) : updS (nF V j i) i j v = nF V j (i + 1) := by
  subst hv
  funext x y
  unfold updS nF upd
  by_cases e : x = i
  · subst e
    rw [if_pos rfl]
    by_cases e2 : y = j
    · subst e2; rw [if_pos rfl, if_pos (by omega)]
    · rw [if_neg e2]
      show (if y < j ∨ y = j ∧ x < x then V x y else 0) = _
      by_cases h : y < j
      · rw [if_pos (by omega), if_pos (by omega)]
      · rw [if_neg (by omega), if_neg (by omega)]
  · rw [if_neg e]
    by_cases h : y < j ∨ y = j ∧ x < i
    · rw [if_pos h, if_pos (by omega)]
    · rw [if_neg h, if_neg (by omega)]
theorem nF_next {V : Nat → Nat → Nat} {j N x y : Nat} (hx : x < N) : nF V j N x y = nF V (j + 1) 0 x y := by
  unfold nF
  by_cases h : y < j + 1
  · rw [if_pos (by omega), if_pos (by omega)]
  · rw [if_neg (by omega), if_neg (by omega)]
theorem nF_end {V : Nat → Nat → Nat} {L x y : Nat} (hy : y < L) : nF V L 0 x y = V x y := by unfold nF; rw [if_pos (.inl hy)]
theorem nF_zero {V : Nat → Nat → Nat} {x y : Nat} : nF V 0 0 x y = 0 := by unfold nF; rw [if_neg (by omega)]
theorem u8_in {n : Nat} (h : n < 256) : IntKind.u8.wrap (n : Int) = (n : Int) := by simp [IntKind.wrap, IntKind.bits, IntKind.signed]; omega

theorem eval_keep {tb base n cp v b : Nat} {oa : Option Addr} {f : Nat → Nat} {x : Nat} {u0 u2 : Value} (w : World) (h : TabIn w tb) (hG : Grow w base (.slice oa n cp) n f) (hf : ∀ i, i < n → f i < 256) (hb : tb < base) (hn : n ≤ maxLen) (hx : x < 256) (hv : evalN f n x = v)
    (h0 : w.cell? ⟨b, 0, none⟩ = some u0) (h2 : w.cell? ⟨b, 2, none⟩ = some u2) (hne : b ≠ tb) :
    Calls Tryd.prog 23 #[.pointer (some ⟨tb, 0, none⟩), .slice oa n cp, .int .u8 x] w fun e w' => e = .returned (.int .u8 (v : Nat)) ∧ Left tb w w' ∧ w'.cell? ⟨b, 0, none⟩ = some u0 ∧ w'.cell? ⟨b, 2, none⟩ = some u2 := by
  obtain ⟨oa', cp', e, hB, hA⟩ := hG.bytes hf
  cases e
  exact (eval_is w h hB (fun _ a ha => by have := hA a ha; omega) hn hx hv).mono fun e w' ⟨he, hl⟩ => ⟨he, hl, hl.2.cell h0 hne, hl.2.cell h2 hne⟩
theorem cF_eq {s d : Nat → Nat} {k j jk sj : Nat} (h1 : j * k = jk) (h2 : s j = sj) : cF s d k j = catF 1 (fun _ => sj) (fun i => d (jk + i)) := by subst h1; subst h2; rfl

set_option maxHeartbeats 400000 in
theorem draws_any (K N k L M : Nat) (g : Int) (w : World) (hK : K = k + 1) (h2 : 2 ≤ K) (hKN : K ≤ N) (hN : N ≤ 255) (h1 : 1 ≤ L) (hL : L ≤ 64) (hM : M = L * k) :
    Calls Tryd.prog 22 #[.agg #[.int .i64 (K : Int), .int .i64 (N : Int), .int .u32 g], .int .i64 (L : Int)] w fun e w' => e = .returned (.int .i64 (M : Int)) ∧ Below w.heap.size w w' := by
  have HC := Lib.hid (fun w => check_yes (K : Int) (N : Int) g w ⟨by omega, by omega, by omega⟩)
  have HF := Lib.hid (fun w => fits_yes L w h1 hL)
  have hKk : (K : Int) - 1 = (k : Int) := by omega
  have hMi : (k : Int) * (L : Int) = (M : Int) := by rw [hM, Nat.mul_comm]; exact (Int.natCast_mul k L).symm
  have hMb : M ≤ 64 * 254 := by rw [hM]; exact Nat.mul_le_mul hL (by omega)
  have hMw : IntKind.i64.wrap ((k : Int) * (L : Int)) = (M : Int) := by rw [hMi]; exact IntWalk.i64_in _ (by omega)
  have hM2 : (M : Int) ≤ 20000 := by omega
  have hb1 : (1 : Int) ≤ (K : Int) ∧ (K : Int) ≤ 255 := by omega
  clear hM hK h2 hKN hN h1 hL hMb
  go_enter Tryd.func22, Tryd.ntmps22
  go_wp2_with fail
  refine (HC.out _).mono ?_
  rintro e w1 ⟨rfl, hb⟩
  have hc0 : w1.cell? ⟨w.heap.size, 0, none⟩ = some (.int .i64 (K : Int)) := cell_below hb (World.cell?_alloc_mark _ _ _ _ _)
  have HB1 : Hid (Below w.heap.size w w1) := Lib.hid (((Below.refl _ _).alloc (Nat.le_refl _) _).trans (hb.mono (by simp)))
  clear hb
  go_wp2_with fail
  refine (HF.out _).mono ?_
  rintro e w2 ⟨rfl, rfl⟩
  go_wp2_with fail
  go_ret
  exact ⟨rfl, HB1.out⟩

set_option maxRecDepth 100000 in
set_option maxHeartbeats 4000000 in
theorem split_any (tb Kp N k gen L cs M cd sb so db dof : Nat) (s d : Nat → Nat) (w : World) (hT : TabIn w tb) (hs : Bytes w (some ⟨sb, so, none⟩) L s) (hsA : sb ≠ tb) (hd : Bytes w (some ⟨db, dof, none⟩) M d) (hdA : db ≠ tb)
    (hK : Kp = k + 1) (h2 : 2 ≤ Kp) (hKN : Kp ≤ N) (hN : N ≤ 255) (h1 : 1 ≤ L) (hL : L ≤ 64) (hM : M = L * k) (hcd : M ≤ cd) :
    Calls Tryd.prog 7 #[.pointer (some ⟨tb, 0, none⟩), .slice (some ⟨sb, so, none⟩) L cs, .agg #[.int .i64 (Kp : Int), .int .i64 (N : Int), .int .u32 (gen : Int)], .slice (some ⟨db, dof, none⟩) M cd] w
      fun e w' => ∃ wA, e = .returned (.tuple #[.slice (some ⟨wA.heap.size, 0, none⟩) N N, .nilIface]) ∧ w.heap.size ≤ wA.heap.size ∧ Own tb w wA ∧ SR tb wA N L gen (fun x => shF s d k (x + 1)) w' := by
  have HC := Lib.hid (fun w => check_yes (Kp : Int) (N : Int) (gen : Int) w ⟨by omega, by omega, by omega⟩)
  have HF := Lib.hid (fun w => fits_yes L w h1 hL)
  have HD := Lib.hid (fun w => draws_any Kp N k L M (gen : Int) w hK h2 hKN hN h1 hL hM)
  have HNM : Hid (Kp = k + 1 ∧ 2 ≤ Kp ∧ Kp ≤ N ∧ N ≤ 255 ∧ 1 ≤ L ∧ L ≤ 64 ∧ M = L * k ∧ M ≤ cd) := Lib.hid ⟨hK, h2, hKN, hN, h1, hL, hM, hcd⟩
  have HS := Lib.hid hs
  have HDR := Lib.hid hd
  have HA := Lib.hid (show sb ≠ tb ∧ db ≠ tb from ⟨hsA, hdA⟩)
  have HT := Lib.hid hT
  clear hs hd hsA hdA hT hK hKN hM hcd
  go_enter Tryd.func7, Tryd.ntmps7
  go_wp2_with fail
  refine (HC.out _).mono ?_
  rintro e w1 ⟨rfl, hb⟩
  have HB1 : Hid (Blk w1 w.heap.size #[.int .i64 (Kp : Int), .int .i64 (N : Int), .int .u32 (gen : Int)] 26 ∧ Below w.heap.size w w1) := Lib.hid ⟨Blk.below (Blk.new _ _ _) hb (by simp), ((Below.refl _ _).alloc (Nat.le_refl _) _).trans (hb.mono (by simp))⟩
  clear hb
  go_wp2_with fail
  refine (HF.out _).mono ?_
  rintro e w2 ⟨rfl, rfl⟩
  have c0 : w1.cell? ⟨w.heap.size, 0, none⟩ = some (.int .i64 (Kp : Int)) := by rw [Blk.cell HB1.out.1]; rfl
  have c1 : w1.cell? ⟨w.heap.size, 1, none⟩ = some (.int .i64 (N : Int)) := by rw [Blk.cell HB1.out.1]; rfl
  have c2 : w1.cell? ⟨w.heap.size, 2, none⟩ = some (.int .u32 (gen : Int)) := by rw [Blk.cell HB1.out.1]; rfl
  go_wp2_with fail
  refine (HD.out _).mono ?_
  rintro e wA ⟨rfl, hb⟩
  have HA1 : Hid (Blk wA w.heap.size #[.int .i64 (Kp : Int), .int .i64 (N : Int), .int .u32 (gen : Int)] 26 ∧ Below w.heap.size w wA) := Lib.hid ⟨Blk.below HB1.out.1 hb (Blk.lt HB1.out.1), HB1.out.2.trans (hb.mono HB1.out.2.size)⟩
  clear hb c0 c1 c2 HB1
  have c0 : wA.cell? ⟨w.heap.size, 0, none⟩ = some (.int .i64 (Kp : Int)) := by rw [Blk.cell HA1.out.1]; rfl
  have c1 : wA.cell? ⟨w.heap.size, 1, none⟩ = some (.int .i64 (N : Int)) := by rw [Blk.cell HA1.out.1]; rfl
  have c2 : wA.cell? ⟨w.heap.size, 2, none⟩ = some (.int .u32 (gen : Int)) := by rw [Blk.cell HA1.out.1]; rfl
  go_wp2_with (refine wpList_mkS rfl (.tmp 42) (.tmp 42) rfl N rfl rfl hN ?_)
  have hX0 := SM.start wA N L gen
  generalize wA.alloc (.cells (rws N fun _ => zsh).toArray 42) = wB at *
  clear c0 c1 c2
  go_wp2_with fail
  go_loopw [46] (fun x wr => ∃ i : Nat, i ≤ N ∧ x = .int .i64 (i : Int) ∧ SM wA N L gen i wr) (fun x _ => N - (intOf x).toNat)
  case atStart => exact ⟨0, Nat.zero_le _, rfl, hX0⟩
  case round =>
    obtain ⟨i, hi, rfl, hX⟩ := hrel
    clear hX0
    by_cases hlt : i < N
    · have hi1 : (i : Int) < (N : Int) := by omega
      have hw1 : IntKind.i64.wrap ((i : Int) + 1) = (i : Int) + 1 := IntWalk.i64_in _ (by omega)
      have hw8 : IntKind.u8.wrap ((i : Int) + 1) = (i : Int) + 1 := u8_in (n := i + 1) (by omega)
      have hi0 : (0 : Int) ≤ (i : Int) := by omega
      have HC2 : Hid (wA.cell? ⟨w.heap.size, 2, none⟩ = some (.int .u32 (gen : Int))) := Lib.hid (by rw [Blk.cell HA1.out.1]; rfl)
      have hX_0 := hX.drew
      have hP_0 : Below wA.heap.size wA wr.drew := hX.bel.drew
      clear hX
      go_wp2_with fail
      refine wp_region_held_drew (S := (Below wA.heap.size wA)) (by kernel_rfl) ?_ (fun hHeld => ?_)
      · (try dsimp only)
        first | assumption | (apply Below.drew; assumption)
      generalize wr.drew = W5 at *
      refine wpAnyH_take (i := 0) (oi := { dst := some 49, op := Go.Op.move (Go.Operand.tmp 10), type := 29, pos := "shamir.go:49", after := #[], guard := none }) (v := ?_) rfl (by kernel_rfl) (by kernel_rfl) (by kernel_rfl) (fun _ _ _ h => h) (Or.inl ⟨by rfl, ?_⟩) (by assumption) ?_
      rotate_left
      · intro wS hSw
        (try dsimp only at hSw)
        go_simp
        (try with_reducible rfl)
      (try simp only [Act.put, List.setIfInBounds_toArray, List.set_cons_zero, List.set_cons_succ])
      refine wpAnyH_take (i := 1) (oi := { dst := some 50, op := Go.Op.move (Go.Operand.tmp 11), type := 3, pos := "shamir.go:49", after := #[], guard := none }) (v := ?_) rfl (by kernel_rfl) (by kernel_rfl) (by kernel_rfl) (fun _ _ _ h => h) (Or.inl ⟨by rfl, ?_⟩) (by assumption) ?_
      rotate_left
      · intro wS hSw
        (try dsimp only at hSw)
        go_simp
        (try with_reducible rfl)
      (try simp only [Act.put, List.setIfInBounds_toArray, List.set_cons_zero, List.set_cons_succ])
      refine wpAnyH_take (i := 2) (oi := { dst := some 51, op := Go.Op.move (Go.Operand.tmp 11), type := 3, pos := "shamir.go:49", after := #[], guard := none }) (v := ?_) rfl (by kernel_rfl) (by kernel_rfl) (by kernel_rfl) (fun _ _ _ h => h) (Or.inl ⟨by rfl, ?_⟩) (by assumption) ?_
      rotate_left
      · intro wS hSw
        (try dsimp only at hSw)
        go_simp
        (try with_reducible rfl)
      (try simp only [Act.put, List.setIfInBounds_toArray, List.set_cons_zero, List.set_cons_succ])
      refine wpAnyH_take (i := 3) (oi := { dst := some 52, op := Go.Op.binOp Go.BinOp.add 3 (Go.Operand.tmp 51) (Go.Operand.const (Go.Value.int Go.IntKind.i64 1)) 3, type := 3, pos := "shamir.go:49", after := #[{ on := 2, ground := Go.Ground.data }], guard := none }) (v := ?_) rfl (by kernel_rfl) (by kernel_rfl) (by kernel_rfl) (fun _ _ _ h => h) (Or.inl ⟨by rfl, ?_⟩) (by assumption) ?_
      rotate_left
      · intro wS hSw
        ((try dsimp only at hSw); go_simp; (try with_reducible rfl))
      (try simp only [Act.put, List.setIfInBounds_toArray, List.set_cons_zero, List.set_cons_succ])
      refine wpAnyH_take (i := 4) (oi := { dst := some 53, op := Go.Op.convert 3 5 (Go.Operand.tmp 52), type := 5, pos := "shamir.go:49", after := #[{ on := 3, ground := Go.Ground.data }], guard := none }) (v := ?_) rfl (by kernel_rfl) (by kernel_rfl) (by kernel_rfl) (fun _ _ _ h => h) (Or.inl ⟨by rfl, ?_⟩) (by assumption) ?_
      rotate_left
      · intro wS hSw
        (try dsimp only at hSw)
        go_simp
        (try with_reducible rfl)
      (try simp only [Act.put, List.setIfInBounds_toArray, List.set_cons_zero, List.set_cons_succ])
      refine wpAnyH_take (i := 5) (oi := { dst := some 54, op := Go.Op.fieldAddr 26 (Go.Operand.tmp 6) 2, type := 0, pos := "shamir.go:49", after := #[], guard := none }) (v := ?_) rfl (by kernel_rfl) (by kernel_rfl) (by kernel_rfl) (fun _ _ _ h => h) (Or.inl ⟨by rfl, ?_⟩) (by assumption) ?_
      rotate_left
      · intro wS hSw
        (try dsimp only at hSw)
        go_simp
        (try with_reducible rfl)
      (try simp only [Act.put, List.setIfInBounds_toArray, List.set_cons_zero, List.set_cons_succ])
      refine wpAnyH_take (i := 6) (oi := { dst := some 55, op := Go.Op.load 24 (Go.Operand.tmp 54), type := 24, pos := "shamir.go:49", after := #[{ on := 5, ground := Go.Ground.data }], guard := none }) (v := ?_) rfl (by kernel_rfl) (by kernel_rfl) (by kernel_rfl) (fun _ _ _ h => h) (Or.inl ⟨by rfl, ?_⟩) (by assumption) ?_
      rotate_left
      · intro wS hSw
        (have c9 := cell_below hSw HC2.out; go_simp; (try with_reducible rfl))
      (try simp only [Act.put, List.setIfInBounds_toArray, List.set_cons_zero, List.set_cons_succ])
      refine wpAnyH_take (i := 7) (oi := { dst := some 56, op := Go.Op.move (Go.Operand.tmp 1), type := 34, pos := "shamir.go:49", after := #[], guard := none }) (v := ?_) rfl (by kernel_rfl) (by kernel_rfl) (by kernel_rfl) (fun _ _ _ h => h) (Or.inl ⟨by rfl, ?_⟩) (by assumption) ?_
      rotate_left
      · intro wS hSw
        (try dsimp only at hSw)
        go_simp
        (try with_reducible rfl)
      (try simp only [Act.put, List.setIfInBounds_toArray, List.set_cons_zero, List.set_cons_succ])
      refine wpAnyH_take (i := 8) (oi := { dst := some 57, op := Go.Op.call { callee := Go.Callee.builtin Go.Builtin.len, args := #[Go.Operand.tmp 56], argTypes := #[34] }, type := 3, pos := "shamir.go:49", after := #[{ on := 7, ground := Go.Ground.data }], guard := none }) (v := ?_) rfl (by kernel_rfl) (by kernel_rfl) (by kernel_rfl) (fun _ _ _ h => h) (Or.inl ⟨by rfl, ?_⟩) (by assumption) ?_
      rotate_left
      · intro wS hSw
        (try dsimp only at hSw)
        go_simp
        (try with_reducible rfl)
      (try simp only [Act.put, List.setIfInBounds_toArray, List.set_cons_zero, List.set_cons_succ])
      refine wpAnyH_ready (rs := [9]) (by kernel_rfl) (by simp) ?_
      refine AllReadyH.cons (o := { dst := some 58, op := Go.Op.makeSlice 34 (Go.Operand.tmp 57) (Go.Operand.tmp 57), type := 34, pos := "shamir.go:49", after := #[{ on := 8, ground := Go.Ground.data }, { on := 8, ground := Go.Ground.data }], guard := none }) rfl (fun K hK => ?_) AllReadyH.nil
      (refine step_make rfl (.tmp 57) (.tmp 57) rfl L rfl rfl (by omega) ?_; have hP_1 : Below wA.heap.size wA (W5.alloc (.cells (rowC L (fun _ => 0)).toArray 5)) := hP_0.trans ((Below.refl _ _).alloc hP_0.size _); have HTH : Hid ((W5.alloc (.cells (rowC L (fun _ => 0)).toArray 5)).there wA.heap.size (i * 3) 3) := Lib.hid (Blk.thereM (hX_0.blk.alloc _) (by rw [rws_size3 (fun _ _ => mkC_len _ _ _ _ _)]; omega)); clear hP_0; skip)
      refine hK.out _ _ ?_ (fun hHeld => ?_)
      · (try dsimp only)
        first | assumption | (apply Below.drew; assumption)
      clear hK K
      (try simp only [Act.put, List.setIfInBounds_toArray, List.set_cons_zero, List.set_cons_succ])
      refine wpAnyH_take (i := 10) (oi := { dst := some 59, op := Go.Op.build 42 #[(0, Go.Operand.tmp 53), (1, Go.Operand.tmp 55), (2, Go.Operand.tmp 58)], type := 42, pos := "shamir.go:49", after := #[{ on := 4, ground := Go.Ground.data }, { on := 6, ground := Go.Ground.data }, { on := 9, ground := Go.Ground.data }], guard := none }) (v := ?_) rfl (by kernel_rfl) (by kernel_rfl) (by kernel_rfl) (fun _ _ _ h => h) (Or.inl ⟨by rfl, ?_⟩) (by assumption) ?_
      rotate_left
      · intro wS hSw
        refine exec_buildM (parts := #[(0, .tmp 53), (1, .tmp 55), (2, .tmp 58)]) (C := #[.int .u8 ((i : Int) + 1), .int .u32 (gen : Int), .slice (some ⟨W5.heap.size, 0, none⟩) L L]) (ps := #[(0, .int .u8 ((i : Int) + 1)), (1, .int .u32 (gen : Int)), (2, .slice (some ⟨W5.heap.size, 0, none⟩) L L)]) ?_ ?_ (build_share _ _ _ _ _) <;> first | rfl | (simp; exact ⟨rfl, rfl, rfl⟩)
      (try simp only [Act.put, List.setIfInBounds_toArray, List.set_cons_zero, List.set_cons_succ])
      refine wpAnyH_take (i := 11) (oi := { dst := some 60, op := Go.Op.indexAddr 29 (Go.Operand.tmp 49) (Go.Operand.tmp 50), type := 0, pos := "shamir.go:49", after := #[{ on := 0, ground := Go.Ground.data }, { on := 1, ground := Go.Ground.data }, { on := 0, ground := Go.Ground.phase }, { on := 1, ground := Go.Ground.phase }, { on := 2, ground := Go.Ground.phase }, { on := 3, ground := Go.Ground.phase }, { on := 4, ground := Go.Ground.phase }, { on := 5, ground := Go.Ground.phase }, { on := 6, ground := Go.Ground.phase }, { on := 7, ground := Go.Ground.phase }, { on := 8, ground := Go.Ground.phase }, { on := 9, ground := Go.Ground.phase }, { on := 10, ground := Go.Ground.phase }], guard := none }) (v := ?_) rfl (by kernel_rfl) (by kernel_rfl) (by kernel_rfl) (fun _ _ _ h => h) (Or.inl ⟨by rfl, ?_⟩) (by assumption) ?_
      rotate_left
      · intro wS hSw
        (try dsimp only at hSw)
        go_simp
        (try with_reducible rfl)
      (try simp only [Act.put, List.setIfInBounds_toArray, List.set_cons_zero, List.set_cons_succ])
      refine wpAnyH_ready (rs := [12]) (by kernel_rfl) (by simp) ?_
      refine AllReadyH.cons (o := { dst := none, op := Go.Op.store 42 (Go.Operand.tmp 60) (Go.Operand.tmp 59), type := 0, pos := "shamir.go:49", after := #[{ on := 11, ground := Go.Ground.data }, { on := 10, ground := Go.Ground.data }, { on := 0, ground := Go.Ground.phase }, { on := 1, ground := Go.Ground.phase }, { on := 2, ground := Go.Ground.phase }, { on := 3, ground := Go.Ground.phase }, { on := 4, ground := Go.Ground.phase }, { on := 5, ground := Go.Ground.phase }, { on := 6, ground := Go.Ground.phase }, { on := 7, ground := Go.Ground.phase }, { on := 8, ground := Go.Ground.phase }, { on := 9, ground := Go.Ground.phase }, { on := 10, ground := Go.Ground.phase }], guard := none }) rfl (fun K hK => ?_) AllReadyH.nil
      (refine step_storeM rfl 42 (.tmp 60) (.tmp 59) rfl wA.heap.size (i * 3) #[.int .u8 ((i : Int) + 1), .int .u32 (gen : Int), .slice (some ⟨W5.heap.size, 0, none⟩) L L] rfl rfl HTH.out info_share3 (one_share _ _ _ _ _ _ _) ?_; have hX2 := hX_0.next hlt; rw [shC, ← hX_0.size] at hX2; have hP_2 := hX2.bel; skip)
      refine hK.out _ _ ?_ (fun hHeld => ?_)
      · (try dsimp only)
        first | assumption | (apply Below.drew; assumption)
      clear hK K
      (try simp only [Act.put, List.setIfInBounds_toArray, List.set_cons_zero, List.set_cons_succ])
      refine wpAnyH_done (by kernel_rfl) ?_ _
      have HX2 := Lib.hid hX2
      clear hX2 hX_0 hP_1 hP_2
      go_wp2_with fail
      go_roundw
      case rel => exact ⟨i + 1, by omega, by go_num, HX2.out⟩
      case measure => simp [intOf]; omega
    · obtain rfl : N = i := by omega
      have hR := SR.of_made hX (HT.out.below HA1.out.2)
      have c0 : wr.cell? ⟨w.heap.size, 0, none⟩ = some (.int .i64 (Kp : Int)) := by rw [Blk.cell (Blk.below HA1.out.1 hX.bel (Blk.lt HA1.out.1))]; rfl
      have hKk : (Kp : Int) - 1 = (k : Int) := by have := HNM.out.1; omega
      have hKb : (1 : Int) ≤ (Kp : Int) ∧ (Kp : Int) ≤ 255 := by have := HNM.out; omega
      have hR2 := hR.congr (G := nF (fun x => shF s d k (x + 1)) 0 0) (fun x j _ _ => nF_zero.symm)
      clear hX hR hlt hi
      go_wp2_with fail
      clear c0 hKk
      go_loopw [67] (fun x wr => ∃ j : Nat, j ≤ L ∧ x = .int .i64 (j : Int) ∧ SR tb wA N L gen (nF (fun x => shF s d k (x + 1)) j 0) wr) (fun x _ => L - (intOf x).toNat)
      case atStart => exact ⟨0, Nat.zero_le _, rfl, hR2⟩
      case round =>
        obtain ⟨j, hj, rfl, hR⟩ := hrel
        clear hR2
        by_cases hlt : j < L
        · obtain ⟨hs8, b9, o9, e9, hc⟩ := ((HS.out.later HA1.out.2).own hR.own (Apart.of_ne HA.out.1)) j hlt
          cases e9
          obtain ⟨jk, hjk⟩ : ∃ x, j * k = x := ⟨_, rfl⟩
          obtain ⟨hi, hhi⟩ : ∃ x, jk + k = x := ⟨_, rfl⟩
          have hle : hi ≤ M ∧ 1 ≤ k := by
            have h9 := HNM.out
            rw [← hhi, ← hjk, h9.2.2.2.2.2.2.1]
            exact ⟨by rw [← Nat.succ_mul]; exact Nat.mul_le_mul_right k hlt, by omega⟩
          have hMc : M ≤ cd ∧ M ≤ 64 * 255 := by
            have h9 := HNM.out
            refine ⟨h9.2.2.2.2.2.2.2, ?_⟩
            rw [h9.2.2.2.2.2.2.1]; exact Nat.mul_le_mul h9.2.2.2.2.2.1 (by omega)
          have hj0 : (0 : Int) ≤ (j : Int) := by omega
          have hj1 : (j : Int) < (L : Int) := by omega
          have hw1 : IntKind.i64.wrap ((j : Int) + 1) = (j : Int) + 1 := IntWalk.i64_in _ (by omega)
          have hw2 : IntKind.i64.wrap ((j : Int) * (k : Int)) = (jk : Int) := by rw [← Int.natCast_mul, hjk]; exact IntWalk.i64_in _ (by omega)
          have hw3 : IntKind.i64.wrap (((j : Int) + 1) * (k : Int)) = (hi : Int) := by
            rw [show ((j : Int) + 1) * (k : Int) = (hi : Int) by rw [show ((j : Int) + 1) = ((j + 1 : Nat) : Int) from rfl, ← Int.natCast_mul, Nat.succ_mul, hjk, hhi]]
            exact IntWalk.i64_in _ (by omega)
          have hne : ¬ cd = jk := by omega
          have hb1 : jk ≤ hi := by omega
          have hb2 : hi ≤ cd := by omega
          have HJ : Hid (j * k = jk ∧ jk + k = hi ∧ hi ≤ M ∧ 1 ≤ k) := Lib.hid ⟨hjk, hhi, hle.1, hle.2⟩
          obtain ⟨sj, hsj⟩ : ∃ x, s j = x := ⟨_, rfl⟩
          rw [hsj] at hc hs8
          have HSJ := Lib.hid hsj
          clear hjk hhi hle hMc hsj
          have hhk : hi - jk = k := by have := HJ.out; omega
          have HGL : Hid (Grow (wr.alloc (.cells #[.int .u8 (sj : Int)] 5)) wr.heap.size (.slice (some ⟨wr.heap.size, 0, none⟩) 1 1) 1 (fun _ => sj)) := Lib.hid (Grow.lit (Blk.new _ _ _) (Nat.le_refl _) (by unfold maxLen; omega))
          have HBD : Hid (Bytes (wr.alloc (.cells #[.int .u8 (sj : Int)] 5)) (some ⟨db, dof + jk, none⟩) k (fun i => d (jk + i))) := Lib.hid (fun i hi' => by
            obtain ⟨g1, b, off, e, g2⟩ := (((HDR.out.later HA1.out.2).own hR.own (Apart.of_ne HA.out.2)).alloc (.cells #[.int .u8 (sj : Int)] 5)) (jk + i) (by have := HJ.out; omega)
            cases e
            exact ⟨g1, db, dof + jk, rfl, by rw [Nat.add_assoc]; exact g2⟩)
          have HR := Lib.hid hR
          have hk4 : k < 1000 := by have := HNM.out; omega
          clear hR
          go_wp2_with (refine wpList_appO rfl (.tmp 73) (.tmp 82) rfl wr.heap.size (.slice (some ⟨wr.heap.size, 0, none⟩) 1 1) 1 k (cd - jk) (some ⟨db, dof + jk, none⟩) (fun _ => sj) (fun i => d (jk + i)) _ rfl HGL.out rfl (fun e => by cases e) HBD.out (by omega) ?c1 ?_)
          case c1 => simp
          intro v1 w1 hG hgr hat
          have hb1 : Below wr.heap.size wr w1 := ((Below.refl _ _).alloc (Nat.le_refl _) _).grown hgr (by simp) (Grow.block HGL.out)
          have hR1 := HR.out.later hb1
          obtain ⟨B0, hB0⟩ : ∃ x, wr.heap.size = x := ⟨_, rfl⟩
          have hlow : wA.heap.size + 1 + N ≤ B0 ∧ tb < wA.heap.size := ⟨hB0 ▸ HR.out.big, HR.out.low⟩
          rw [hB0] at hG
          obtain ⟨C, hC⟩ : ∃ x, cF s d k j = x := ⟨_, rfl⟩
          rw [← cF_eq HJ.out.1 HSJ.out, hC] at hG
          have HCC : Hid (∀ i, i < 1 + k → C i < 256) := Lib.hid (by
            rw [← hC]
            exact cF_lt (L := L) (fun j hj => (HS.out j hj).1) (fun i hi => (HDR.out i (by rw [HNM.out.2.2.2.2.2.2.1]; exact hi)).1) hlt)
          have HCE := Lib.hid hC
          have hsz1 : B0 ≤ w1.heap.size := hB0 ▸ hb1.size
          clear hgr hat hb1 hB0 hC HGL HBD HR hc hw2 hw3 hhk hne hb2
          obtain ⟨oa, cp, rfl, hBy, hob⟩ := hG.bytes HCC.out
          clear hBy hob
          have hk9 : 1 + k ≤ maxLen := by unfold maxLen; have := HNM.out; omega
          have HK9 := Lib.hid hk9
          clear hk9
          go_wp2_with fail
          go_loopw [86] (fun x ws => ∃ i : Nat, i ≤ N ∧ x = .int .i64 (i : Int) ∧ SR tb wA N L gen (nF (fun x => shF s d k (x + 1)) j i) ws ∧ Grow ws B0 (.slice oa (1 + k) cp) (1 + k) C ∧ B0 ≤ ws.heap.size) (fun x _ => N - (intOf x).toNat)
          case atStart => exact ⟨0, Nat.zero_le _, rfl, hR1, hG, hsz1⟩
          case round =>
            obtain ⟨i, hi', rfl, hR, hG2, hBw⟩ := hrel
            clear hR1 hG hsz1
            by_cases hlt2 : i < N
            · obtain ⟨q0, q1, q2⟩ := hR.cells hlt2
              obtain ⟨q, hq⟩ : ∃ x, i + 1 = x := ⟨_, rfl⟩
              have hq2 : (i : Int) + 1 = (q : Int) := by omega
              have hq8 : q < 256 := by omega
              rw [hq] at q0
              have hi0 : (0 : Int) ≤ (i : Int) := by omega
              have hi1 : (i : Int) < (N : Int) := by omega
              have HQ := Lib.hid hq
              have HR := Lib.hid hR
              have HG := Lib.hid hG2
              clear hq hq2 hR hG2
              go_wp2_with fail
              obtain ⟨wB, hwB⟩ : ∃ x, wr.alloc (.cells #[.int .u8 (q : Int), .int .u32 (gen : Int), .slice (some ⟨wA.heap.size + 1 + i, 0, none⟩) L L] 42) = x := ⟨_, rfl⟩
              rw [hwB]
              have hR2 : SR tb wA N L gen (nF (fun x => shF s d k (x + 1)) j i) wB.drew := by rw [← hwB]; exact (HR.out.alloc _).drew
              have hG3 : Grow wB.drew B0 (.slice oa (1 + k) cp) (1 + k) C := by rw [← hwB]; exact (HG.out.later ((Below.refl _ _).alloc (Nat.le_refl _) _)).drew
              have hbw : B0 ≤ wB.heap.size := by rw [← hwB]; simp; omega
              have hbn : wr.heap.size ≠ tb := by omega
              obtain ⟨sb2, hsb2⟩ : ∃ x, wr.heap.size = x := ⟨_, rfl⟩
              have d0 : wB.cell? ⟨sb2, 0, none⟩ = some (.int .u8 (q : Int)) := by rw [← hwB, ← hsb2]; exact World.cell?_alloc_mark _ _ _ _ _
              have d2 : wB.cell? ⟨sb2, 2, none⟩ = some (.slice (some ⟨wA.heap.size + 1 + i, 0, none⟩) L L) := by rw [← hwB, ← hsb2]; exact World.cell?_alloc_mark _ _ _ _ _
              rw [hsb2] at hbn
              obtain ⟨v, hv⟩ : ∃ x, evalN C (1 + k) q = x := ⟨_, rfl⟩
              have HVV := Lib.hid hv
              have HR2 := Lib.hid hR2
              have HG3 := Lib.hid hG3
              have HL2 := Lib.hid hlow
              have HBN := Lib.hid hbn
              have HBW := Lib.hid hbw
              have hne3 : sb2 ≠ wA.heap.size + 1 + i := by omega
              have hne4 : wA.heap.size + 1 + i ≠ sb2 := by omega
              rw [hsb2]
              clear hv hR2 hG3 hwB hsb2 q0 q1 q2 HR HG hlow hbn hbw hBw
              go_region_held3 (fun w' => w'.cell? ⟨sb2, 0, none⟩ = some (.int .u8 (q : Int)) ∧ w'.cell? ⟨sb2, 2, none⟩ = some (.slice (some ⟨wA.heap.size + 1 + i, 0, none⟩) L L)) (go_keep)
                ((go_at_call 23; refine (eval_keep (b := sb2) _ HR2.out.tab HG3.out HCC.out (by have := HL2.out; omega) HK9.out hq8 HVV.out d0 d2 HBN.out).mono ?_; rintro e w5 ⟨rfl, hL5, d5, d6⟩; have hR5 := Lib.hid (HR2.out.left hL5); have c5 := (hR5.out.rows i hlt2).cell hlt; have f5 := Blk.free (hR5.out.rows i hlt2) j))
              have HR6 := Lib.hid (hR5.out.set hlt2 j v)
              have HG6 : Hid (Grow (w5.setCell ⟨wA.heap.size + 1 + i, j, none⟩ (.int .u8 (v : Nat))) B0 (.slice oa (1 + k) cp) (1 + k) C) := Lib.hid ((HG3.out.own hL5.2 (by have := HL2.out; omega)).own ((Own.refl (wA.heap.size + 1 + i) w5).set j _) (by have := HL2.out; omega))
              have hlow := HL2.out
              have hB6 : Hid (B0 ≤ (w5.setCell ⟨wA.heap.size + 1 + i, j, none⟩ (.int .u8 (v : Nat))).heap.size) := Lib.hid (Nat.le_trans HBW.out (Nat.le_trans hL5.2.size ((Own.refl (wA.heap.size + 1 + i) w5).set j _).size))
              clear HR2 HG3 hL5 d5 d6 hR5 c5 f5 d0 d2 hne3 hne4
              go_wp2_with fail
              go_roundw
              case rel => exact ⟨i + 1, by omega, by go_num, by
                have h9 := HR6.out
                rw [nF_step (by show shF s d k (i + 1) j = v; rw [HQ.out, ← HVV.out, ← HCE.out]; rfl)] at h9
                exact h9, HG6.out, hB6.out⟩
              case measure => simp [intOf]; omega
            · obtain rfl : N = i := by omega
              have HR6 := Lib.hid (hR.congr (G := nF (fun x => shF s d k (x + 1)) (j + 1) 0) (fun x y hx _ => nF_next hx))
              clear hR hG2 hBw
              go_wp2_with fail
              go_roundw
              case rel => exact ⟨j + 1, by omega, by go_num, HR6.out⟩
              case measure => simp [intOf]; omega
        · obtain rfl : L = j := by omega
          have HR6 := Lib.hid (hR.congr (G := fun x => shF s d k (x + 1)) (fun x y _ hy => nF_end hy))
          clear hR
          go_wp2_with fail
          go_ret2
          exact ⟨wA, rfl, HA1.out.2.size, Own.of_below HA1.out.2, HR6.out⟩
end Go.Proofs.YtgiffaeckhhmpaaDoor
namespace Go.Proofs.YtgiffaeckhhmpaaDoor
set_option linter.unusedVariables false
set_option linter.unusedSimpArgs false
open Go.RowKit

/-- What stands against part i, but for its generation. -/
def badB (S : Nat → Sh) (i : Nat) : Bool := decide ((S i).ix = 0) || (seenB (fun q => (S q).ix) i (S i).ix || (decide ((S i).len ≠ (S 0).len) || !decide (1 ≤ (S 0).len ∧ (S 0).len ≤ 64)))
def genB (S : Nat → Sh) (gen i : Nat) : Bool := decide ((S i).gen ≠ gen)
/-- The error's number: 0 if the first K parts go together. -/
def needE (S : Nat → Sh) (n K gen : Nat) : Nat := if n < K then 2 else if (List.range K).any (genB S gen) = true then 14 else if (List.range K).any (badB S) = true then 12 else 0
theorem any_range {P : Nat → Bool} {K : Nat} : (List.range K).any P = true ↔ ∃ i, i < K ∧ P i = true := by
  rw [List.any_eq_true]; exact ⟨fun ⟨i, h1, h2⟩ => ⟨i, List.mem_range.1 h1, h2⟩, fun ⟨i, h1, h2⟩ => ⟨i, List.mem_range.2 h1, h2⟩⟩
theorem needE_short {S : Nat → Sh} {n K gen : Nat} (h : n < K) : needE S n K gen = 2 := if_pos h
theorem needE_gen {S : Nat → Sh} {n K gen i : Nat} (h : ¬ n < K) (hi : i < K) (hg : (S i).gen ≠ gen) : needE S n K gen = 14 := by
  unfold needE; rw [if_neg h, if_pos (any_range.2 ⟨i, hi, decide_eq_true hg⟩)]
theorem needE_bad {S : Nat → Sh} {n K gen i : Nat} (h : ¬ n < K) (hg : ∀ i, i < K → (S i).gen = gen) (hi : i < K) (hb : badB S i = true) : needE S n K gen = 12 := by
  unfold needE; rw [if_neg h, if_neg (fun h => by
    obtain ⟨i, h1, h2⟩ := any_range.1 h
    exact absurd (hg i h1) (of_decide_eq_true h2)), if_pos (any_range.2 ⟨i, hi, hb⟩)]
theorem needE_ok {S : Nat → Sh} {n K gen : Nat} (h : ¬ n < K) (hg : ∀ i, i < K → (S i).gen = gen) (hb : ∀ i, i < K → badB S i = false) : needE S n K gen = 0 := by
  unfold needE; rw [if_neg h, if_neg (fun h => by
    obtain ⟨i, h1, h2⟩ := any_range.1 h
    exact absurd (hg i h1) (of_decide_eq_true h2)), if_neg (fun h => by
    obtain ⟨i, h1, h2⟩ := any_range.1 h
    rw [hb i h1] at h2; cases h2)]
theorem needE_zero {S : Nat → Sh} {n K gen : Nat} (h : needE S n K gen = 0) : K ≤ n ∧ (∀ i, i < K → (S i).gen = gen) ∧ ∀ i, i < K → badB S i = false := by
  unfold needE at h
  by_cases h1 : n < K
  · rw [if_pos h1] at h; cases h
  · rw [if_neg h1] at h
    by_cases h2 : (List.range K).any (genB S gen) = true
    · rw [if_pos h2] at h; cases h
    · rw [if_neg h2] at h
      by_cases h3 : (List.range K).any (badB S) = true
      · rw [if_pos h3] at h; cases h
      · refine ⟨by omega, fun i hi => ?_, fun i hi => ?_⟩
        · by_cases e : (S i).gen = gen
          · exact e
          · exact absurd (any_range.2 ⟨i, hi, decide_eq_true e⟩) h2
        · cases e : badB S i
          · rfl
          · exact absurd (any_range.2 ⟨i, hi, e⟩) h3
theorem badB_no {S : Nat → Sh} {i : Nat} (h : badB S i = false) : (S i).ix ≠ 0 ∧ seenB (fun q => (S q).ix) i (S i).ix = false ∧ (S i).len = (S 0).len ∧ 1 ≤ (S 0).len ∧ (S 0).len ≤ 64 := by
  unfold badB at h
  rw [Bool.or_eq_false_iff, Bool.or_eq_false_iff, Bool.or_eq_false_iff] at h
  obtain ⟨h1, h2, h3, h4⟩ := h
  have h5 := of_decide_eq_false h3
  have h6 : decide (1 ≤ (S 0).len ∧ (S 0).len ≤ 64) = true := by simpa using h4
  have h7 := of_decide_eq_true h6
  exact ⟨of_decide_eq_false h1, h2, by omega, h7.1, h7.2⟩
theorem badB_of {S : Nat → Sh} {i : Nat} (h1 : (S i).ix ≠ 0) (h2 : seenB (fun q => (S q).ix) i (S i).ix = false) (h3 : (S i).len = (S 0).len) (h4 : 1 ≤ (S 0).len ∧ (S 0).len ≤ 64) : badB S i = false := by
  unfold badB; rw [decide_eq_false h1, h2, decide_eq_false (by omega : ¬ (S i).len ≠ (S 0).len), decide_eq_true h4]; rfl
theorem badB_ix {S : Nat → Sh} {i : Nat} (h1 : (S i).ix = 0) : badB S i = true := by unfold badB; rw [decide_eq_true h1]; rfl
theorem badB_seen {S : Nat → Sh} {i : Nat} (h1 : seenB (fun q => (S q).ix) i (S i).ix = true) : badB S i = true := by unfold badB; rw [h1]; simp
theorem badB_len {S : Nat → Sh} {i : Nat} (h1 : (S i).len ≠ (S 0).len) : badB S i = true := by unfold badB; rw [decide_eq_true h1]; simp
theorem badB_fit {S : Nat → Sh} {i : Nat} (h1 : ¬ (1 ≤ (S 0).len ∧ (S 0).len ≤ 64)) : badB S i = true := by unfold badB; rw [decide_eq_false h1]; simp
/-- The places are distinct. -/
theorem ok_places {S : Nat → Sh} {n K gen : Nat} (h : needE S n K gen = 0) (h1 : 1 ≤ K) (h2 : K ≤ 255) : placesB (fun q => (S q).ix) K = true := by
  refine placesB_iff.2 ⟨?_, h1, h2⟩
  have hb := (needE_zero h).2.2
  clear h h1 h2
  induction K with
  | zero => rfl
  | succ K ih =>
    show (distB _ K && !seenB _ K _) = true
    rw [ih fun i hi => hb i (by omega), (badB_no (hb K (by omega))).2.1]; rfl
/-- What needed answers. -/
def NeedR (oa : Option Addr) (K cs E : Nat) (e : Ending) : Prop := (E = 0 ∧ e = .returned (.tuple #[.slice oa K cs, .nilIface])) ∨ (E ≠ 0 ∧ e = .returned (.tuple #[.slice none 0 0, .iface 83 (.int .i64 (E : Int))]))

set_option maxRecDepth 100000 in
set_option maxHeartbeats 4000000 in
theorem needed_any (tb n cs Kp gen : Nat) (N : Int) (oa : Option Addr) (S : Nat → Sh) (w : World) (hS : Shs tb w oa n S) (hix : ∀ i, i < n → (S i).ix < 256) (hnc : n ≤ cs) (hm : cs ≤ maxLen) (h2 : 2 ≤ Kp) (hK : Kp ≤ 255) :
    Calls Tryd.prog 52 #[.slice oa n cs, .agg #[.int .i64 (Kp : Int), .int .i64 N, .int .u32 (gen : Int)]] w fun e w' => NeedR oa Kp cs (needE S n Kp gen) e ∧ Below w.heap.size w w' := by
  have hm2 : cs ≤ 9223372036854775807 := by unfold maxLen at hm; exact hm
  by_cases hlt : n < Kp
  · have hE := needE_short (S := S) (gen := gen) hlt
    clear hS hix hm
    go_enter Tryd.func52, Tryd.ntmps52
    go_wp2_with fail
    go_ret2
    exact ⟨.inr ⟨by rw [hE]; decide, by rw [hE]; rfl⟩, (Below.refl _ _).alloc (Nat.le_refl _) _⟩
  · obtain ⟨w0, hw0⟩ : ∃ x, w.alloc (.cells #[.int .i64 (Kp : Int), .int .i64 N, .int .u32 (gen : Int)] 26) = x := ⟨_, rfl⟩
    have HB0 : Hid (Blk w0 w.heap.size #[.int .i64 (Kp : Int), .int .i64 N, .int .u32 (gen : Int)] 26 ∧ Below w.heap.size w w0 ∧ w.heap.size < w0.heap.size) := Lib.hid (by rw [← hw0]; exact ⟨Blk.new _ _ _, (Below.refl _ _).alloc (Nat.le_refl _) _, by simp⟩)
    have HS := Lib.hid (hS.later HB0.out.2.1)
    have HIX := Lib.hid hix
    have hKc : Kp ≤ cs := by omega
    have HL := Lib.hid hlt
    have hz := zeroB_run
    have HZ := Lib.hid hz
    have hKi : (Kp : Int) ≤ 255 := by omega
    clear hS hix hm hz
    go_enter Tryd.func52, Tryd.ntmps52
    have c9 : w0.cell? ⟨w.heap.size, 0, none⟩ = some (.int .i64 (Kp : Int)) := by rw [Blk.cell HB0.out.1]; rfl
    go_wp2_with fail
    clear hw0 hlt c9
    go_loopw [25] (fun x wr => ∃ i : Nat, i ≤ Kp ∧ x = .int .i64 (i : Int) ∧ (∀ q, q < i → (S q).gen = gen) ∧ Below w0.heap.size w0 wr) (fun x _ => Kp - (intOf x).toNat)
    case atStart => exact ⟨0, Nat.zero_le _, rfl, fun q hq => absurd hq (Nat.not_lt_zero _), Below.refl _ _⟩
    case round =>
      obtain ⟨i, hi, rfl, hg, hb⟩ := hrel
      have HG := Lib.hid hg
      have HB := Lib.hid hb
      clear hg hb
      by_cases hlt : i < Kp
      · obtain ⟨b, off, od, cap, rfl, -, -, -, -, -, -, c0, c1, c2⟩ := (HS.out.later HB.out).get i (by have := HL.out; omega)
        have hi0 : (0 : Int) ≤ (i : Int) := by omega
        have hi1 : (i : Int) < (Kp : Int) := by omega
        have d2 : wr.cell? ⟨w.heap.size, 2, none⟩ = some (.int .u32 (gen : Int)) := by rw [Blk.cell (Blk.below HB0.out.1 HB.out HB0.out.2.2)]; rfl
        have hne0 : w.heap.size < wr.heap.size := Nat.lt_of_lt_of_le HB0.out.2.2 HB.out.size
        by_cases hg : (S i).gen = gen
        · have HG2 := Lib.hid hg
          rw [hg] at c1
          clear hg
          go_wp2_with fail
          go_roundw
          case rel => exact ⟨i + 1, by omega, by go_num, fun q hq => by
            by_cases e : q = i
            · rw [e]; exact HG2.out
            · exact HG.out q (by omega), HB.out.trans ((Below.refl _ _).alloc HB.out.size _)⟩
          case measure => simp [intOf]; omega
        · have hE := Lib.hid (needE_gen (n := n) HL.out hlt hg)
          have hne : ((((S i).gen : Nat) : Int) != (gen : Int)) = true := by rw [bne_iff_ne]; omega
          have hne2 : ((((S i).gen : Nat) : Int) == (gen : Int)) = false := by rw [beq_eq_false_iff_ne]; omega
          clear hg
          go_wp2_with fail
          go_ret2
          exact ⟨.inr ⟨by rw [hE.out]; decide, by rw [hE.out]; rfl⟩, HB0.out.2.1.trans ((HB.out.trans ((Below.refl _ _).alloc HB.out.size _)).mono HB0.out.2.1.size)⟩
      · obtain rfl : Kp = i := by omega
        obtain ⟨b, off, od, cap, rfl, -, -, -, -, -, -, c0, c1, c2⟩ := (HS.out.later HB.out).get 0 (by have := HL.out; omega)
        rw [Nat.zero_mul, Nat.add_zero] at c0 c1 c2
        have hz := HZ.out
        have hk0 : (0 : Int) < (Kp : Int) := by omega
        have hk00 : 0 < Kp := by omega
        obtain ⟨L, hL⟩ : ∃ x, (S 0).len = x := ⟨_, rfl⟩
        rw [hL] at c2
        have HLL := Lib.hid hL
        clear hlt hi hL c0 c1
        go_wp2_with fail
        obtain ⟨sb, hsb⟩ : ∃ x, wr.heap.size = x := ⟨_, rfl⟩
        have HSB := Lib.hid hsb
        have hB1 : Below wr.heap.size wr (wr.alloc (.cells zeroB 136)) := (Below.refl _ _).alloc (Nat.le_refl _) _
        have hBk : Blk (wr.alloc (.cells zeroB 136)) sb (boolC (fun q => (S q).ix) 0).toArray 136 := by rw [boolC_zero, ← hsb]; exact Blk.new _ _ _
        obtain ⟨w1, hw1⟩ : ∃ x, wr.alloc (.cells zeroB 136) = x := ⟨_, rfl⟩
        rw [hw1] at hB1 hBk ⊢
        rw [hsb]
        obtain ⟨wo, hwo⟩ : ∃ x, wr = x := ⟨_, rfl⟩
        rw [hwo] at HSB hB1 HB
        clear hw1 hwo hz c2 hsb
        clear wr
        go_loopw [43] (fun x ws => ∃ i : Nat, i ≤ Kp ∧ x = .int .i64 (i : Int) ∧ (∀ q, q < i → badB S q = false) ∧ Blk ws sb (boolC (fun q => (S q).ix) i).toArray 136 ∧ Below wo.heap.size wo ws) (fun x _ => Kp - (intOf x).toNat)
        case atStart => exact ⟨0, Nat.zero_le _, rfl, fun q hq => absurd hq (Nat.not_lt_zero _), hBk, hB1⟩
        case round =>
          obtain ⟨i, hi, rfl, hgd, hBs, hbw⟩ := hrel
          have HGD := Lib.hid hgd
          have HBS := Lib.hid hBs
          have HBW := Lib.hid hbw
          clear hgd hBs hbw hBk hB1
          have HBE : Hid (Below w.heap.size w wr) := Lib.hid (HB0.out.2.1.trans (((HB.out.trans (HBW.out.mono HB.out.size))).mono HB0.out.2.1.size))
          have hsw : sb < wr.heap.size := Blk.lt HBS.out
          by_cases hlt : i < Kp
          · obtain ⟨b2, off2, od2, cap2, e2, -, -, -, -, -, -, c0, c1, c2⟩ := ((HS.out.later HB.out).later HBW.out).get i (by have := HL.out; omega)
            cases e2
            have hi0 : (0 : Int) ≤ (i : Int) := by omega
            have hi1 : (i : Int) < (Kp : Int) := by omega
            have hx8 := HIX.out i (by have := HL.out; omega)
            have HE := Lib.hid fun (h : badB S i = true) => needE_bad (n := n) HL.out HG.out hlt h
            have HRR := Lib.hid fun (h : badB S i = true) => show NeedR (some ⟨b, off, none⟩) Kp cs (needE S n Kp gen) (.returned (.tuple #[.slice none 0 0, .iface 83 (.int .i64 12)])) from .inr ⟨by rw [HE.out h]; decide, by rw [HE.out h]; rfl⟩
            have hsc : wr.cell? ⟨sb, (S i).ix, none⟩ = some (.bool (seenB (fun q => (S q).ix) i (S i).ix)) := by rw [Blk.cell HBS.out]; simpa using boolC_get (fun q => (S q).ix) i hx8
            have hfz : wr.frozen? ⟨sb, (S i).ix, none⟩ = false := Blk.free HBS.out _
            have HB2 := Lib.hid (Blk.below HBS.out ((Below.refl _ wr).alloc (Nat.le_refl _) (.cells #[.int .u8 ((S i).ix : Int), .int .u32 ((S i).gen : Int), .slice od2 (S i).len cap2] 42)) hsw)
            have HA2 := Lib.hid (HBE.out.trans ((Below.refl _ wr).alloc HBE.out.size (.cells #[.int .u8 ((S i).ix : Int), .int .u32 ((S i).gen : Int), .slice od2 (S i).len cap2] 42)))
            have HW2 := Lib.hid (HBW.out.trans ((Below.refl _ wr).alloc HBW.out.size (.cells #[.int .u8 ((S i).ix : Int), .int .u32 ((S i).gen : Int), .slice od2 (S i).len cap2] 42)))
            by_cases k1 : (S i).ix = 0
            · have HQ := Lib.hid (HRR.out (badB_ix k1))
              have g1 : ((((S i).ix : Nat) : Int) == 0) = true := by rw [beq_iff_eq]; omega
              clear hsc hfz k1
              go_wp2_with fail
              go_ret2
              exact ⟨HQ.out, HA2.out⟩
            have g1 : ((((S i).ix : Nat) : Int) == 0) = false := by rw [beq_eq_false_iff_ne]; omega
            have g0 : (0 : Int) ≤ ((S i).ix : Int) ∧ ((S i).ix : Int) < 256 := by omega
            rcases hs : seenB (fun q => (S q).ix) i (S i).ix with _ | _
            case true =>
              have HQ := Lib.hid (HRR.out (badB_seen hs))
              rw [hs] at hsc
              clear hs k1
              generalize (S i).ix = ix at *
              go_wp2_with fail
              go_ret2
              exact ⟨HQ.out, HA2.out⟩
            rw [hs] at hsc
            by_cases k2 : (S i).len = (S 0).len
            case neg =>
              have HQ := Lib.hid (HRR.out (badB_len k2))
              have g2 : ((((S i).len : Nat) : Int) != (L : Int)) = true := by rw [bne_iff_ne]; have := HLL.out; omega
              clear hs k1 k2
              generalize (S i).ix = ix at *
              generalize (S i).len = li at *
              go_wp2_with fail
              go_ret2
              exact ⟨HQ.out, HA2.out⟩
            have g2 : ((((S i).len : Nat) : Int) != (L : Int)) = false := by rw [bne_eq_false_iff_eq]; have := HLL.out; omega
            by_cases k3 : 1 ≤ L ∧ L ≤ 64
            case neg =>
              have HQ := Lib.hid (HRR.out (badB_fit (by rw [HLL.out]; exact k3)))
              have HF := Lib.hid fun w => fits_no L w k3
              clear hs k1 k2 k3
              generalize (S i).ix = ix at *
              generalize (S i).len = li at *
              go_wp2_with fail
              refine (HF.out _).mono ?_
              rintro e w5 ⟨rfl, rfl⟩
              go_wp2_with fail
              go_ret2
              exact ⟨HQ.out, HA2.out⟩
            have HQ := Lib.hid (badB_of k1 hs k2 (by rw [HLL.out]; exact k3))
            have HF := Lib.hid fun w => fits_yes L w k3.1 k3.2
            have hC2 := Blk.set HBS.out (S i).ix (.bool true)
            rw [List.setIfInBounds_toArray, boolC_set (fun q => (S q).ix)] at hC2
            have HC2 := Lib.hid (hC2.alloc (.cells #[.int .u8 ((S i).ix : Int), .int .u32 ((S i).gen : Int), .slice od2 (S i).len cap2] 42))
            have hb3 := HBW.out.setCell (p := ⟨sb, (S i).ix, none⟩) (by show wo.heap.size ≤ sb; rw [HSB.out]; exact Nat.le_refl _) (.bool true)
            have HBE2 := Lib.hid (hb3.trans ((Below.refl _ _).alloc hb3.size (.cells #[.int .u8 ((S i).ix : Int), .int .u32 ((S i).gen : Int), .slice od2 (S i).len cap2] 42)))
            clear hb3
            clear hs k1 k2 k3 hC2
            generalize (S i).ix = ix at *
            generalize (S i).len = li at *
            go_wp2_with fail
            refine (HF.out _).mono ?_
            rintro e w5 ⟨rfl, rfl⟩
            go_wp2_with fail
            go_roundw
            case rel => exact ⟨i + 1, by omega, by go_num, fun q hq => by
              by_cases e : q = i
              · rw [e]; exact HQ.out
              · exact HGD.out q (by omega), HC2.out, HBE2.out⟩
            case measure => simp [intOf]; omega
          · obtain rfl : Kp = i := by omega
            have hE := Lib.hid (needE_ok (n := n) HL.out HG.out HGD.out)
            go_wp2_with fail
            go_ret2
            exact ⟨.inl ⟨hE.out, rfl⟩, HBE.out⟩
end Go.Proofs.YtgiffaeckhhmpaaDoor
namespace Go.Proofs.YtgiffaeckhhmpaaDoor
set_option linter.unusedVariables false
set_option linter.unusedSimpArgs false
open Go.RowKit

theorem wpList_mk {ops : Array Oper} {rest : List Oper} {o : Oper} {a : Act} {w : World} {Q : Exit → Act → World → Prop} (hgd : o.guard = none) (x y : Operand) (ho : o.op = .makeSlice 34 x y) (n : Nat) (hx : a.eval x = .int .i64 (n : Int)) (hy : a.eval y = .int .i64 (n : Int)) (hn : n < 1000000000000)
    (h : wpList Tryd.prog ops Q rest (a.put o.dst (.slice (some ⟨w.heap.size, 0, none⟩) n n)) (w.alloc (.cells (rowC n (fun _ => 0)).toArray 5))) : wpList Tryd.prog ops Q (o :: rest) a w := by
  refine wpList_plain hgd fun K hK => ?_
  have hrun := make_zeros n hn w
  unfold Oper.wp
  simp [execOp, ho, hx, hy, hrun, Result.andThen]
  exact hK _ _ h
/-- Parts put together at a place. -/
def jnF (S : Nat → Sh) (x K j : Nat) : Nat := xsum (fun i => mulN (wF (fun q => (S q).ix) i x K) ((S i).f j)) K
theorem jnF_lt (S : Nat → Sh) (x K j : Nat) : jnF S x K j < 256 := xsum_lt K fun _ _ => mulN_lt _ _
/-- The same, of the first i parts; of byte y already the one more if y < j. -/
def jnP (S : Nat → Sh) (x K i j : Nat) : Nat → Nat := fun y => xsum (fun i => mulN (wF (fun q => (S q).ix) i x K) ((S i).f y)) (if y < j then i + 1 else i)
theorem jnP_lt (S : Nat → Sh) (x K i j y : Nat) : jnP S x K i j y < 256 := xsum_lt _ fun _ _ => mulN_lt _ _
theorem jnP_step {S : Nat → Sh} {x K i j p a b : Nat} (hp : jnP S x K i j j = p) (ha : wF (fun q => (S q).ix) i x K = a) (hb : (S i).f j = b) : upd (jnP S x K i j) j (p ^^^ mulN a b) = jnP S x K i (j + 1) := by
  subst hp; subst ha; subst hb
  funext y
  unfold upd jnP
  by_cases e : y = j
  · subst e; rw [if_pos rfl, if_neg (by omega), if_pos (by omega)]; rfl
  · rw [if_neg e]
    by_cases h : y < j
    · rw [if_pos h, if_pos (by omega)]
    · rw [if_neg h, if_neg (by omega)]
theorem jnP_next {S : Nat → Sh} {x K i L y : Nat} (hy : y < L) : jnP S x K i L y = jnP S x K (i + 1) 0 y := by
  unfold jnP; rw [if_pos hy, if_neg (Nat.not_lt_zero _)]
theorem jnP_end {S : Nat → Sh} {x K y : Nat} : jnP S x K K 0 y = jnF S x K y := by unfold jnP jnF; rw [if_neg (Nat.not_lt_zero _)]
theorem jnP_zero {S : Nat → Sh} {x K y : Nat} : jnP S x K 0 0 y = 0 := by unfold jnP; rw [if_neg (Nat.not_lt_zero _)]; rfl
/-- The first i places. -/
def ixP (S : Nat → Sh) (i : Nat) : Nat → Nat := fun q => if q < i then (S q).ix else 0
theorem ixP_step {S : Nat → Sh} {i x : Nat} (h : (S i).ix = x) : upd (ixP S i) i x = ixP S (i + 1) := by
  subst h
  funext q
  unfold upd ixP
  by_cases e : q = i
  · subst e; rw [if_pos rfl, if_pos (by omega)]
  · rw [if_neg e]
    by_cases h : q < i
    · rw [if_pos h, if_pos (by omega)]
    · rw [if_neg h, if_neg (by omega)]
/-- A product, where two rows stay. -/
theorem mul_rows {tb a c gs j L v gw i K u : Nat} {F G : Nat → Nat} (w : World) (h : TabIn w tb) (ha : a < 256) (hc : c < 256) (hR : Row w gs L F) (hv : F j = v) (hj : j < L) (hn : gs ≠ tb) (hR2 : Row w gw K G) (hu : G i = u) (hi : i < K) (hn2 : gw ≠ tb) :
    Calls Tryd.prog 35 #[.pointer (some ⟨tb, 0, none⟩), .int .u8 a, .int .u8 c] w fun e w' => e = .returned (.int .u8 (mulN a c)) ∧ Left tb w w' ∧ w'.cell? ⟨gs, j, none⟩ = some (.int .u8 v) ∧ w'.frozen? ⟨gs, j, none⟩ = false ∧ w'.cell? ⟨gw, i, none⟩ = some (.int .u8 u) :=
  (mul_any tb a c w h ha hc).mono fun e w' ⟨he, hl⟩ => ⟨he, hl, by rw [← hv]; exact (hR.own hl.2 hn).cell hj, Blk.free (hR.own hl.2 hn) j, by rw [← hu]; exact (hR2.own hl.2 hn2).cell hi⟩
/-- What through answers of a plan that may be. -/
def ThrR (tb : Nat) (S : Nat → Sh) (x K E : Nat) (w : World) (e : Ending) (w' : World) : Prop :=
  (E = 0 ∧ ∃ g, e = .returned (.tuple #[.slice (some ⟨g, 0, none⟩) (S 0).len (S 0).len, .nilIface]) ∧ w.heap.size ≤ g ∧ Row w' g (S 0).len (jnF S x K) ∧ Left tb w w') ∨
  (E ≠ 0 ∧ e = .returned (.tuple #[.slice none 0 0, .iface 83 (.int .i64 (E : Int))]) ∧ Left tb w w')
set_option maxRecDepth 100000 in
set_option maxHeartbeats 4000000 in
theorem through_any (tb n cs Kp N gen x : Nat) (oa : Option Addr) (S : Nat → Sh) (w : World) (hT : TabIn w tb) (hS : Shs tb w oa n S) (hix : ∀ i, i < n → (S i).ix < 256) (hnc : n ≤ cs) (hm : cs ≤ maxLen) (h2 : 2 ≤ Kp) (hKN : Kp ≤ N) (hN : N ≤ 255) (hx : x < 256) :
    Calls Tryd.prog 42 #[.pointer (some ⟨tb, 0, none⟩), .slice oa n cs, .agg #[.int .i64 (Kp : Int), .int .i64 (N : Int), .int .u32 (gen : Int)], .int .u8 (x : Int)] w (ThrR tb S x Kp (needE S n Kp gen) w) := by
  have HC := Lib.hid (fun w => check_yes (Kp : Int) (N : Int) (gen : Int) w ⟨by omega, by omega, by omega⟩)
  have HND := Lib.hid (fun w (hS : Shs tb w oa n S) => needed_any tb n cs Kp gen (N : Int) oa S w hS hix hnc hm h2 (by omega))
  have HNM : Hid (n ≤ cs ∧ cs ≤ maxLen ∧ 2 ≤ Kp ∧ Kp ≤ N ∧ N ≤ 255) := Lib.hid ⟨hnc, hm, h2, hKN, hN⟩
  have HS := Lib.hid hS
  have HT := Lib.hid hT
  have HIX := Lib.hid hix
  obtain ⟨E, hE⟩ : ∃ x, needE S n Kp gen = x := ⟨_, rfl⟩
  rw [hE] at HND ⊢
  have HEE := Lib.hid hE
  clear hT hS hix hnc hm hE
  go_enter Tryd.func42, Tryd.ntmps42
  go_wp2_with fail
  refine (HC.out _).mono ?_
  rintro e w1 ⟨rfl, hb⟩
  have HB1 : Hid (Blk w1 w.heap.size #[.int .i64 (Kp : Int), .int .i64 (N : Int), .int .u32 (gen : Int)] 26 ∧ Below w.heap.size w w1) := Lib.hid ⟨Blk.below (Blk.new _ _ _) hb (by simp), ((Below.refl _ _).alloc (Nat.le_refl _) _).trans (hb.mono (by simp))⟩
  have c0 : w1.cell? ⟨w.heap.size, 0, none⟩ = some (.int .i64 (Kp : Int)) := by rw [Blk.cell HB1.out.1]; rfl
  have c1 : w1.cell? ⟨w.heap.size, 1, none⟩ = some (.int .i64 (N : Int)) := by rw [Blk.cell HB1.out.1]; rfl
  have c2 : w1.cell? ⟨w.heap.size, 2, none⟩ = some (.int .u32 (gen : Int)) := by rw [Blk.cell HB1.out.1]; rfl
  clear hb
  go_wp2_with fail
  refine (HND.out _ (HS.out.later HB1.out.2)).mono ?_
  rintro e wA ⟨hR, hb⟩
  have HA1 : Hid (Below w.heap.size w wA) := Lib.hid (HB1.out.2.trans (hb.mono HB1.out.2.size))
  clear hb c0 c1 c2 HB1
  rcases hR with ⟨rfl, rfl⟩ | ⟨hE, rfl⟩
  case inr =>
    have HE0 := Lib.hid hE
    clear hE
    go_wp2_with fail
    go_ret2
    exact .inr ⟨HE0.out, rfl, Left.of_below HT.out HA1.out⟩
  have HOK := Lib.hid (needE_zero HEE.out)
  have HPL := Lib.hid (ok_places HEE.out (by omega) (by omega))
  have hK3 : Kp < 1000000000000 := by omega
  go_wp2_with (refine wpList_mk rfl (.tmp 39) (.tmp 39) rfl Kp rfl rfl hK3 ?_)
  obtain ⟨gx, hgx⟩ : ∃ x, wA.heap.size = x := ⟨_, rfl⟩
  have HGX := Lib.hid hgx
  have hX0 : Row (wA.alloc (.cells (rowC Kp (fun _ => 0)).toArray 5)) gx Kp (ixP S 0) := by
    rw [← hgx]; exact (row_new wA Kp (fun _ => 0)).congr fun i _ => by unfold ixP; rw [if_neg (Nat.not_lt_zero _)]
  have hb0 : Below gx wA (wA.alloc (.cells (rowC Kp (fun _ => 0)).toArray 5)) := by rw [← hgx]; exact (Below.refl _ _).alloc (Nat.le_refl _) _
  obtain ⟨wX, hwX⟩ : ∃ x, wA.alloc (.cells (rowC Kp (fun _ => 0)).toArray 5) = x := ⟨_, rfl⟩
  rw [hwX] at hX0 hb0 ⊢
  rw [hgx]
  clear hwX hgx
  go_wp2_with fail
  go_loopw [43] (fun x wr => ∃ i : Nat, i ≤ Kp ∧ x = .int .i64 (i : Int) ∧ Row wr gx Kp (ixP S i) ∧ Below gx wA wr) (fun x _ => Kp - (intOf x).toNat)
  case atStart => exact ⟨0, Nat.zero_le _, rfl, hX0, hb0⟩
  case round =>
    obtain ⟨i, hi, rfl, hX, hb⟩ := hrel
    have HX := Lib.hid hX
    have HB := Lib.hid hb
    clear hX hb hX0 hb0
    by_cases hlt : i < Kp
    · obtain ⟨b, off, od, cap, rfl, -, -, -, -, -, -, c0, c1, c2⟩ := ((HS.out.later HA1.out).later (HGX.out ▸ HB.out)).get i (by have := HOK.out.1; omega)
      have hi0 : (0 : Int) ≤ (i : Int) := by omega
      have hi1 : (i : Int) < (Kp : Int) := by omega
      have hx0 := HX.out.cell hlt
      have hf0 := Blk.free HX.out i
      have hgw : gx < wr.heap.size := HX.out.lt
      obtain ⟨xi, hxi⟩ : ∃ x, (S i).ix = x := ⟨_, rfl⟩
      rw [hxi] at c0
      have HXI := Lib.hid hxi
      have hX2 := HX.out.set i xi
      rw [ixP_step hxi] at hX2
      have HX2 := Lib.hid ((hX2 : Row _ gx Kp _).later ((Below.refl _ _).alloc (Nat.le_refl _) (.cells #[.int .u8 (xi : Int), .int .u32 ((S i).gen : Int), .slice od (S i).len cap] 42)))
      have hb2 := HB.out.setCell (p := ⟨gx, i, none⟩) (Nat.le_refl _) (.int .u8 (xi : Nat))
      have HB2 := Lib.hid (hb2.trans ((Below.refl gx _).alloc (by simp [World.setCell]; omega) (.cells #[.int .u8 (xi : Int), .int .u32 ((S i).gen : Int), .slice od (S i).len cap] 42)))
      clear hxi hX2 hb2
      go_wp2_with fail
      go_roundw
      case rel => exact ⟨i + 1, by omega, by go_num, HX2.out, HB2.out⟩
      case measure => simp [intOf]; omega
    · obtain rfl : Kp = i := by omega
      have HWT := Lib.hid (weights_any tb (some ⟨gx, 0, none⟩) Kp Kp (fun q => (S q).ix) x wr ((HT.out.later HA1.out).later (HGX.out ▸ HB.out)) ((HX.out.congr fun q hq => (if_pos hq : ixP S Kp q = (S q).ix)).bytes fun q hq => HIX.out q (by have := HOK.out.1; omega)) (Apart.of_ne (by have := HT.out.lt; have := HA1.out.size; have := HGX.out; omega)) (by unfold maxLen; omega) hx HPL.out)
      clear hlt hi
      go_wp2_with fail
      refine HWT.out.mono ?_
      rintro e w2 ⟨gw, rfl, hgw, hW, hL⟩
      have HOW : Hid (Own tb w w2) := Lib.hid ((Own.of_below (HA1.out.trans ((HGX.out ▸ HB.out : Below wA.heap.size wA wr).mono HA1.out.size))).trans hL.2)
      have HS2 := Lib.hid (HS.out.own HOW.out)
      have HW := Lib.hid (⟨hW, hgw, hL.1⟩ : Row w2 gw Kp (fun a => wF (fun q => (S q).ix) a x Kp) ∧ wr.heap.size ≤ gw ∧ TabIn w2 tb)
      have htw : tb < gw := by have := HT.out.lt; have := HA1.out.size; have := HX.out.lt; have := HGX.out; omega
      have HTW := Lib.hid htw
      have hg0 := badB_no (HOK.out.2.2 0 (by omega))
      obtain ⟨L, hL0⟩ : ∃ x, (S 0).len = x := ⟨_, rfl⟩
      rw [hL0] at hg0
      have HLL := Lib.hid hL0
      have hL1 : 1 ≤ L ∧ L ≤ 64 := ⟨hg0.2.2.2.1, hg0.2.2.2.2⟩
      have HSL : Hid (∀ i, i < Kp → (S i).len = L) := Lib.hid fun i hi => by rw [← hL0]; exact (badB_no (HOK.out.2.2 i hi)).2.2.1
      have hL3 : L < 1000000000000 := by omega
      obtain ⟨b, off, od, cap, rfl, -, -, -, -, -, -, c0, c1, c2⟩ := HS2.out.get 0 (by have := HOK.out.1; omega)
      rw [Nat.zero_mul, Nat.add_zero, hL0] at c2
      have hk0 : (0 : Int) < (Kp : Int) := by omega
      have hk00 : 0 < Kp := by omega
      clear hg0 hL0 hW hgw hL c0 c1 HX HB HWT
      clear htw
      go_wp2_with (refine wpList_mk rfl (.tmp 68) (.tmp 68) rfl L rfl rfl hL3 ?_)
      have hX0 : Row (w2.alloc (.cells (rowC L (fun _ => 0)).toArray 5)) w2.heap.size L (jnP S x Kp 0 0) := (row_new w2 L (fun _ => 0)).congr fun i _ => jnP_zero.symm
      have hb0 : Below w2.heap.size w2 (w2.alloc (.cells (rowC L (fun _ => 0)).toArray 5)) := (Below.refl _ _).alloc (Nat.le_refl _) _
      have hT0 : TabIn (w2.alloc (.cells (rowC L (fun _ => 0)).toArray 5)) tb := HW.out.2.2.below hb0
      have hO0 : Own tb w2 (w2.alloc (.cells (rowC L (fun _ => 0)).toArray 5)) := Own.of_below hb0
      obtain ⟨gs, hgs⟩ : ∃ x, w2.heap.size = x := ⟨_, rfl⟩
      have hgg : gw < gs := by rw [← hgs]; exact HW.out.1.lt
      have HGS := Lib.hid hgs
      obtain ⟨wX2, hwX⟩ : ∃ x, w2.alloc (.cells (rowC L (fun _ => 0)).toArray 5) = x := ⟨_, rfl⟩
      rw [hwX, hgs] at hX0
      rw [hwX] at hT0 hO0 ⊢
      rw [hgs]
      have hne : gs ≠ tb ∧ gw ≠ tb := by have := HTW.out; omega
      clear hwX hgs hb0 c2
      go_wp2_with fail
      go_loopw [72] (fun y ws => ∃ i : Nat, i ≤ Kp ∧ y = .int .i64 (i : Int) ∧ Row ws gs L (jnP S x Kp i 0) ∧ TabIn ws tb ∧ Own tb w2 ws) (fun y _ => Kp - (intOf y).toNat)
      case atStart => exact ⟨0, Nat.zero_le _, rfl, hX0, hT0, hO0⟩
      case round =>
        obtain ⟨i, hi, rfl, hR, hTr, hOr⟩ := hrel
        clear hX0 hT0 hO0
        by_cases hlt : i < Kp
        · obtain ⟨b9, off9, od, cap, e9, hb9, hBd, -, -, -, hAd, c0, c1, c2⟩ := HS2.out.get i (by have := HOK.out.1; omega)
          cases e9
          have c0 := hOr.cell c0 hb9
          have c1 := hOr.cell c1 hb9
          have c2 := hOr.cell c2 hb9
          have hi0 : (0 : Int) ≤ (i : Int) := by omega
          have hi1 : (i : Int) < (Kp : Int) := by omega
          rw [HSL.out i hlt] at c2 hBd hAd
          obtain ⟨wB, hwB⟩ : ∃ x, wr.alloc (.cells #[.int .u8 ((S i).ix : Int), .int .u32 ((S i).gen : Int), .slice od L cap] 42) = x := ⟨_, rfl⟩
          have hb5 : Below wr.heap.size wr wB := by rw [← hwB]; exact (Below.refl _ _).alloc (Nat.le_refl _) _
          have hR5 := (hR.later hb5).congr (f' := jnP S x Kp i 0) (fun _ _ => rfl)
          have hT5 := hTr.below hb5
          have hO5 := hOr.trans (Own.of_below hb5)
          have HBD := Lib.hid hBd
          have HAD := Lib.hid hAd
          have HO5 := Lib.hid hO5
          have hsx : wr.heap.size ≤ wB.heap.size := hb5.size
          have d2 : wB.cell? ⟨wr.heap.size, 2, none⟩ = some (.slice od L cap) := by rw [← hwB]; exact World.cell?_alloc_mark _ _ _ _ _
          clear hR hTr hOr hBd hAd hb5
          obtain ⟨ai, hai⟩ : ∃ y, wF (fun q => (S q).ix) i x Kp = y := ⟨_, rfl⟩
          have ha8 : ai < 256 := by rw [← hai]; exact wF_lt _ _ _ _
          have HAI := Lib.hid hai
          clear hai
          go_wp2_with fail
          clear hwB d2 c0 c1 c2 hsx
          go_loopw [80] (fun y ws => ∃ j : Nat, j ≤ L ∧ y = .int .i64 (j : Int) ∧ Row ws gs L (jnP S x Kp i j) ∧ TabIn ws tb ∧ Own tb w2 ws) (fun y _ => L - (intOf y).toNat)
          case atStart => exact ⟨0, Nat.zero_le _, rfl, hR5, hT5, hO5⟩
          case round =>
            obtain ⟨j, hj, rfl, hR, hTr, hOr⟩ := hrel
            clear hR5 hT5 hO5
            by_cases hlj : j < L
            · obtain ⟨hb8, bd, bo, ed, hc⟩ := (HBD.out.own hOr HAD.out) j hlj
              subst ed
              have hj0 : (0 : Int) ≤ (j : Int) := by omega
              have hj1 : (j : Int) < (L : Int) := by omega
              obtain ⟨bj, hbj⟩ : ∃ y, (S i).f j = y := ⟨_, rfl⟩
              rw [hbj] at hb8 hc
              have HBJ := Lib.hid hbj
              obtain ⟨pv, hpv⟩ : ∃ y, jnP S x Kp i j j = y := ⟨_, rfl⟩
              have hp8 : pv < 256 := by rw [← hpv]; exact jnP_lt _ _ _ _ _ _
              have HPV := Lib.hid hpv
              have hm8 := mulN_lt ai bj
              have hWr := HW.out.1.own hOr hne.2
              have HR := Lib.hid hR.drew
              have HWR := Lib.hid hWr.drew
              have HTR : Hid (TabIn wr.drew tb) := Lib.hid hTr
              have HOR := Lib.hid hOr.drew
              have d1 : wr.cell? ⟨gs, j, none⟩ = some (.int .u8 (pv : Nat)) := by rw [← hpv]; exact hR.cell hlj
              have d3 : wr.cell? ⟨gw, i, none⟩ = some (.int .u8 (ai : Nat)) := by rw [← HAI.out]; exact hWr.cell hlt
              clear hbj hpv hR hWr hTr hOr
              go_wp2_with fail
              go_region_with
                (first
                  | (go_at_call 35; refine (mul_rows (gs := gs) (gw := gw) _ HTR.out ha8 hb8 HR.out HPV.out hlj hne.1 HWR.out HAI.out hlt hne.2).mono ?_; rintro e w1 ⟨rfl, hL1, hc1, hf1, hc2⟩)
                  | (go_at_call 34; refine (add_any _ _ _ hp8 hm8).mono ?_; rintro e w' ⟨rfl, rfl⟩))
              all_goals
                have hY2 := (HR.out.own hL1.2 hne.1).set j (pv ^^^ mulN ai bj)
                rw [jnP_step HPV.out HAI.out HBJ.out] at hY2
                have hT2 : TabIn (w1.setCell ⟨gs, j, none⟩ (.int .u8 (pv ^^^ mulN ai bj : Nat))) tb := hL1.1.set_other (Ne.symm hne.1) j _
                have hO2 : Own tb w2 (w1.setCell ⟨gs, j, none⟩ (.int .u8 (pv ^^^ mulN ai bj : Nat))) := (HOR.out.trans hL1.2).set_new j _ (by have := HGS.out; omega)
                have HY2 := Lib.hid hY2
                have HT2 := Lib.hid hT2
                have HO2 := Lib.hid hO2
                clear hY2 hT2 hO2 hL1 hc1 hf1 hc2
                go_wp2_with fail
                go_roundw
                case rel => exact ⟨j + 1, by omega, by go_num, HY2.out, HT2.out, HO2.out⟩
                case measure => simp [intOf]; omega
            · obtain rfl : L = j := by omega
              have HY2 := Lib.hid (hR.congr fun y hy => jnP_next (S := S) (x := x) (K := Kp) (i := i) hy)
              have HT2 := Lib.hid hTr
              have HO2 := Lib.hid hOr
              clear hR hTr hOr
              go_wp2_with fail
              go_roundw
              case rel => exact ⟨i + 1, by omega, by go_num, HY2.out, HT2.out, HO2.out⟩
              case measure => simp [intOf]; omega
        · obtain rfl : Kp = i := by omega
          have HY2 := Lib.hid (hR.congr fun y _ => (jnP_end (S := S) (x := x) (K := Kp) (y := y)))
          have HT2 := Lib.hid hTr
          have HO2 := Lib.hid hOr
          clear hR hTr hOr
          go_wp2_with fail
          go_ret2
          exact .inl ⟨rfl, gs, by rw [HLL.out]; rfl, by have := HOW.out.size; have := HGS.out; omega, by rw [HLL.out]; exact HY2.out, HT2.out, HOW.out.trans HO2.out⟩
end Go.Proofs.YtgiffaeckhhmpaaDoor
namespace Go.Proofs.YtgiffaeckhhmpaaDoor
set_option linter.unusedVariables false
set_option linter.unusedSimpArgs false
open Go.RowKit Go.Extern.Stop Go.Stop Go.Extern

theorem as_nil (t : Value) (w : World) :
    Calls Tryd.prog 27 #[.nilIface, t] w fun e w' => e = .returned (.bool false) ∧ w = w' := by
  go_enter Tryd.func27, Tryd.ntmps27
  go_wp2
  go_ret
  exact ⟨rfl, rfl⟩

theorem Tryd.valueOfT (t : Addr) (w : World) : (ReflectliteValue.unpack (.iface 89 (.pointer (some t)))).run Tryd.prog w
    = .ok (.agg #[.pointer (some ⟨1, 89, none⟩), .pointer (some ⟨w.heap.size, 0, none⟩), .int .u64 150]) (w.alloc (.cells #[.pointer (some t)] 89)) := by kernel_rfl
theorem Tryd.typeT (a : Addr) (w : World) : (ReflectliteValue.methodAny (ReflectliteValue.valueError "reflectlite.Value.Type" 0) (fun t _ _ _ => ReflectliteType.toType t) #[.agg #[.pointer (some ⟨1, 89, none⟩), .pointer (some a), .int .u64 150]]).run Tryd.prog w
    = .ok (.iface 117 (.agg #[.pointer (some ⟨1, 89, none⟩)])) w := by kernel_rfl
theorem Tryd.methodKind (h : Value) (w : World) : (Go.method 289 117 (.agg #[h]) "Kind").run Tryd.prog w = .ok (105, h) w := by kernel_rfl
theorem Tryd.kindT (w : World) : ((ReflectliteType.abiMethod fun t => (fun a : Nat => Value.int IntKind.u8 (a : Int)) <$> Rtype.kind t) #[.pointer (some ⟨1, 89, none⟩)]).run Tryd.prog w = .ok (.int .u8 22) w := by kernel_rfl
theorem Tryd.kindE (w : World) : ((ReflectliteType.abiMethod fun t => (fun a : Nat => Value.int IntKind.u8 (a : Int)) <$> Rtype.kind t) #[.pointer (some ⟨1, 83, none⟩)]).run Tryd.prog w = .ok (.int .u8 2) w := by kernel_rfl

theorem rlm (z : Sem Value) (f : TypeId → Addr → Nat → Nat → Sem Value) (v : Value) :
    ReflectliteValue.method z f #[v] = (do match ← ReflectliteValue.parts v with | none => z | some (t, a, fl) => f t a fl (fl % 32)) := rfl
theorem Tryd.partsT (a : Addr) (w : World) : (ReflectliteValue.parts (.agg #[.pointer (some ⟨1, 89, none⟩), .pointer (some a), .int .u64 150])).run Tryd.prog w = .ok (some (89, a, 150)) w := by kernel_rfl
theorem Tryd.isNilT (a p : Addr) (W : World) (ha : W.cell? a = some (.pointer (some p))) :
    (ReflectliteValue.method (ReflectliteValue.valueError "reflectlite.Value.IsNil" 0) ReflectliteValue.isNil #[.agg #[.pointer (some ⟨1, 89, none⟩), .pointer (some a), .int .u64 150]]).run Tryd.prog W = .ok (.bool false) W := by
  rw [rlm]
  simp only [Sem.run_bind, Tryd.partsT, Result.andThen]
  simp [ReflectliteValue.isNil, loadVar, isAgg, underlying, Tryd.underlying89, ha, Result.andThen]

theorem Tryd.methodElem (h : Value) (w : World) : (Go.method 289 117 (.agg #[h]) "Elem").run Tryd.prog w = .ok (115, .agg #[h]) w := by kernel_rfl
theorem Tryd.methodImplements (h : Value) (w : World) : (Go.method 289 117 (.agg #[h]) "Implements").run Tryd.prog w = .ok (116, .agg #[h]) w := by kernel_rfl
theorem Tryd.methodAssignableTo (h : Value) (w : World) : (Go.method 289 117 (.agg #[h]) "AssignableTo").run Tryd.prog w = .ok (113, .agg #[h]) w := by kernel_rfl
theorem Tryd.elemT (w : World) : (ReflectliteType.method ReflectliteType.elem #[.agg #[.pointer (some ⟨1, 89, none⟩)]]).run Tryd.prog w = .ok (.iface 117 (.agg #[.pointer (some ⟨1, 83, none⟩)])) w := by kernel_rfl
theorem Tryd.implementsE (w : World) : (ReflectliteType.relation "Implements" ReflectliteType.implements_ #[.agg #[.pointer (some ⟨1, 83, none⟩)], .iface 117 (.agg #[.pointer (some ⟨1, 31, none⟩)])]).run Tryd.prog w = .ok (.bool true) w := by kernel_rfl
theorem Tryd.typeOfE (v : Value) (w : World) : (ReflectliteType.typeOf #[.iface 83 v]).run Tryd.prog w = .ok (.iface 117 (.agg #[.pointer (some ⟨1, 83, none⟩)])) w := by kernel_rfl
theorem Tryd.assignableE (w : World) : (ReflectliteType.relation "AssignableTo" ReflectliteType.assignableTo #[.agg #[.pointer (some ⟨1, 83, none⟩)], .iface 117 (.agg #[.pointer (some ⟨1, 83, none⟩)])]).run Tryd.prog w = .ok (.bool true) w := by kernel_rfl
theorem Tryd.valueOfE (n : Int) (w : World) : (ReflectliteValue.unpack (.iface 83 (.int .i64 n))).run Tryd.prog w
    = .ok (.agg #[.pointer (some ⟨1, 83, none⟩), .pointer (some ⟨w.heap.size, 0, none⟩), .int .u64 130]) (w.alloc (.cells #[.int .i64 n] 83)) := by kernel_rfl

theorem Tryd.elemOfT (w : World) : (Rtype.elem? 89).run Tryd.prog w = .ok (some 83) w := by kernel_rfl
theorem Tryd.mkE (p : Addr) (w : World) : (ReflectliteValue.mk 83 p ReflectliteValue.flagAddr).run Tryd.prog w = .ok (.agg #[.pointer (some ⟨1, 83, none⟩), .pointer (some p), .int .u64 386]) w := by kernel_rfl
theorem Tryd.elemVT (a p : Addr) (W : World) (ha : W.cell? a = some (.pointer (some p))) :
    (ReflectliteValue.method (ReflectliteValue.valueError "reflectlite.Value.Elem" 0) ReflectliteValue.elem #[.agg #[.pointer (some ⟨1, 89, none⟩), .pointer (some a), .int .u64 150]]).run Tryd.prog W
      = .ok (.agg #[.pointer (some ⟨1, 83, none⟩), .pointer (some p), .int .u64 386]) W := by
  rw [rlm]
  simp only [Sem.run_bind, Tryd.partsT, Result.andThen]
  simp [ReflectliteValue.elem, loadVar, isAgg, underlying, Tryd.underlying89, ha, Result.andThen, Tryd.elemOfT, Tryd.mkE]
theorem rls (v x : Value) : ReflectliteValue.set #[v, x] = (do
    let (some (dst, a, fl), some (src, b, _)) := (← ReflectliteValue.parts v, ← ReflectliteValue.parts x)
      | unsupported (.noEntry "extern/(internal/reflectlite.Value).Set.zeroValue")
    if fl / ReflectliteValue.flagAddr % 2 == 0 then unsupported (.noEntry "extern/(internal/reflectlite.Value).Set.unaddressable")
    let val ← loadVar src b
    if ← Rtype.directlyAssignable dst src then storeVar dst a val
    else if ← Rtype.implements dst src then
      if (← Rtype.kind src) == 20 then
        match val with
        | .nilIface => unsupported (.noEntry "extern/reflectlite: a nil value of one interface type handed on as a value of another")
        | _ => storeVar dst a val
      else storeVar dst a (.iface src val)
    else panicString ("reflectlite.Set: value of type " ++ (← Rtype.spelt src) ++ " is not assignable to type " ++ (← Rtype.spelt dst))
    pure (.tuple #[])) := rfl
theorem Tryd.partsEa (a : Addr) (w : World) : (ReflectliteValue.parts (.agg #[.pointer (some ⟨1, 83, none⟩), .pointer (some a), .int .u64 386])).run Tryd.prog w = .ok (some (83, a, 386)) w := by kernel_rfl
theorem Tryd.partsE (a : Addr) (w : World) : (ReflectliteValue.parts (.agg #[.pointer (some ⟨1, 83, none⟩), .pointer (some a), .int .u64 130])).run Tryd.prog w = .ok (some (83, a, 130)) w := by kernel_rfl
theorem Tryd.directE (w : World) : (Rtype.directlyAssignable 83 83).run Tryd.prog w = .ok true w := by kernel_rfl
theorem Tryd.setE (ta b : Addr) (n : Int) (old : Value) (W : World) (hb : W.cell? b = some (.int .i64 n)) (ht : W.cell? ta = some old) (hf : W.frozen? ta = false) :
    (ReflectliteValue.set #[.agg #[.pointer (some ⟨1, 83, none⟩), .pointer (some ta), .int .u64 386], .agg #[.pointer (some ⟨1, 83, none⟩), .pointer (some b), .int .u64 130]]).run Tryd.prog W
      = .ok (.tuple #[]) (W.setCell ta (.int .i64 n)) := by
  rw [rls]
  simp only [Sem.run_bind, Tryd.partsEa, Tryd.partsE, Result.andThen]
  simp [ReflectliteValue.flagAddr, loadVar, isAgg, underlying, Tryd.underlying83, hb, Result.andThen, Tryd.directE, storeVar, Value.cells, storeCells, Addr.add]
  rw [run_store Tryd.prog W ta _ _ (by rfl)]
  simp [ht, hf]

set_option maxHeartbeats 4000000 in
theorem as_hit (n : Int) (t : Addr) (old : Value) (w : World) (hg : w.cell? ⟨0, 0, none⟩ = some (.iface 117 (.agg #[.pointer (some ⟨1, 31, none⟩)]))) (ht0 : w.cell? t = some old) (hf0 : w.frozen? t = false) :
    Calls Tryd.prog 27 #[.iface 83 (.int .i64 n), .iface 89 (.pointer (some t))] w fun ev w' => ev = .returned (.bool true) ∧ w' = ((((w.alloc (.cells #[.pointer (some t)] 89)).alloc (.cells #[.pointer (some ⟨1, 89, none⟩), .pointer (some ⟨w.heap.size, 0, none⟩), .int .u64 150] 102)).alloc (.cells #[.pointer (some ⟨1, 89, none⟩), .pointer (some ⟨w.heap.size, 0, none⟩), .int .u64 150] 102)).alloc (.cells #[.int .i64 n] 83)).setCell t (.int .i64 n) := by
  have h6 := @run_callFunc_extern Tryd.prog 38 _ (fun args => ReflectliteValue.unpack (args.getD 0 (.tuple #[]))) Tryd.func38 (by kernel_rfl) (by kernel_rfl) (by kernel_rfl) (by kernel_rfl)
  have h7 := @run_callFunc_extern Tryd.prog 39 _ (ReflectliteValue.methodAny (ReflectliteValue.valueError "reflectlite.Value.Type" 0) (fun t _ _ _ => ReflectliteType.toType t)) Tryd.func39 (by kernel_rfl) (by kernel_rfl) (by kernel_rfl) (by kernel_rfl)
  have h8 := @run_callFunc_extern Tryd.prog 40 _ (ReflectliteValue.method (ReflectliteValue.valueError "reflectlite.Value.IsNil" 0) ReflectliteValue.isNil) Tryd.func40 (by kernel_rfl) (by kernel_rfl) (by kernel_rfl) (by kernel_rfl)
  have h27 := @run_callFunc_extern Tryd.prog 105 _ (ReflectliteType.abiMethod fun t => do pure (.int .u8 (← Rtype.kind t))) Tryd.func105 (by kernel_rfl) (by kernel_rfl) (by kernel_rfl) (by kernel_rfl)
  have h37 := @run_callFunc_extern Tryd.prog 115 _ (ReflectliteType.method ReflectliteType.elem) Tryd.func115 (by kernel_rfl) (by kernel_rfl) (by kernel_rfl) (by kernel_rfl)
  have h38 := @run_callFunc_extern Tryd.prog 116 _ (ReflectliteType.relation "Implements" ReflectliteType.implements_) Tryd.func116 (by kernel_rfl) (by kernel_rfl) (by kernel_rfl) (by kernel_rfl)
  have h10 := @run_callFunc_extern Tryd.prog 49 _ ReflectliteType.typeOf Tryd.func49 (by kernel_rfl) (by kernel_rfl) (by kernel_rfl) (by kernel_rfl)
  have h35 := @run_callFunc_extern Tryd.prog 113 _ (ReflectliteType.relation "AssignableTo" ReflectliteType.assignableTo) Tryd.func113 (by kernel_rfl) (by kernel_rfl) (by kernel_rfl) (by kernel_rfl)
  have h11 := @run_callFunc_extern Tryd.prog 50 _ (ReflectliteValue.method (ReflectliteValue.valueError "reflectlite.Value.Elem" 0) ReflectliteValue.elem) Tryd.func50 (by kernel_rfl) (by kernel_rfl) (by kernel_rfl) (by kernel_rfl)
  have h12 := @run_callFunc_extern Tryd.prog 51 _ ReflectliteValue.set Tryd.func51 (by kernel_rfl) (by kernel_rfl) (by kernel_rfl) (by kernel_rfl)
  have tO := Tryd.typeOfE
  have mA := Tryd.methodAssignableTo
  have a25 := Tryd.assignableE
  have v25 := Tryd.valueOfE
  have f6 := Tryd.valueOfT
  have f7 := Tryd.typeT
  have mK := Tryd.methodKind
  have mE := Tryd.methodElem
  have mI := Tryd.methodImplements
  have k27 := Tryd.kindT
  have k25 := Tryd.kindE
  have e27 := Tryd.elemT
  have i25 := Tryd.implementsE
  have n8 := Tryd.isNilT ⟨w.heap.size, 0, none⟩ t ((w.alloc (.cells #[.pointer (some t)] 89)).alloc (.cells #[.pointer (some ⟨1, 89, none⟩), .pointer (some ⟨w.heap.size, 0, none⟩), .int .u64 150] 102)) (by simp)
  have hlt : 0 < w.heap.size := by
    rcases Nat.lt_or_ge 0 w.heap.size with h | h
    · exact h
    · simp [World.cell?, Array.getElem?_eq_none h] at hg
  have hg2 : ((w.alloc (.cells #[.pointer (some t)] 89)).alloc (.cells #[.pointer (some ⟨1, 89, none⟩), .pointer (some ⟨w.heap.size, 0, none⟩), .int .u64 150] 102)).cell? ⟨0, 0, none⟩ = some (.iface 117 (.agg #[.pointer (some ⟨1, 31, none⟩)])) := by
    rw [World.cell?_alloc_lt _ _ ⟨0, 0, none⟩ (by simp <;> omega), World.cell?_alloc_lt _ _ ⟨0, 0, none⟩ hlt]; exact hg
  have htl : t.block < w.heap.size := by
    rcases Nat.lt_or_ge t.block w.heap.size with h | h
    · exact h
    · simp [World.cell?, Array.getElem?_eq_none h] at ht0
  have el := Tryd.elemVT ⟨w.heap.size, 0, none⟩ t (((w.alloc (.cells #[.pointer (some t)] 89)).alloc (.cells #[.pointer (some ⟨1, 89, none⟩), .pointer (some ⟨w.heap.size, 0, none⟩), .int .u64 150] 102)).alloc (.cells #[.pointer (some ⟨1, 89, none⟩), .pointer (some ⟨w.heap.size, 0, none⟩), .int .u64 150] 102)) (by rw [World.cell?_alloc_lt _ _ ⟨w.heap.size, 0, none⟩ (by simp; omega)]; simp)
  have st := Tryd.setE t ⟨w.heap.size + 1 + 1 + 1, 0, none⟩ n old ((((w.alloc (.cells #[.pointer (some t)] 89)).alloc (.cells #[.pointer (some ⟨1, 89, none⟩), .pointer (some ⟨w.heap.size, 0, none⟩), .int .u64 150] 102)).alloc (.cells #[.pointer (some ⟨1, 89, none⟩), .pointer (some ⟨w.heap.size, 0, none⟩), .int .u64 150] 102)).alloc (.cells #[.int .i64 n] 83))
    (by rw [World.cell?_alloc_at _ _ _ _ (by simp)]; rfl)
    (by rw [World.cell?_alloc_lt _ _ t (by simp; omega), World.cell?_alloc_lt _ _ t (by simp; omega), World.cell?_alloc_lt _ _ t (by simp; omega), World.cell?_alloc_lt _ _ t htl]; exact ht0)
    (by rw [World.frozen?_alloc_old _ _ t (by simp; omega), World.frozen?_alloc_old _ _ t (by simp; omega), World.frozen?_alloc_old _ _ t (by simp; omega), World.frozen?_alloc_old _ _ t (Nat.ne_of_lt htl)]; exact hf0)
  go_enter Tryd.func27, Tryd.ntmps27
  go_wp2
  refine wp_loop_rounds 1 ?_
  rw [rounds_succ]
  go_wp2
  go_ret
  exact ⟨rfl, rfl⟩

/-- What the handle's variable holds. -/
def Handle (w : World) : Prop := w.cell? ⟨0, 0, none⟩ = some (.iface 117 (.agg #[.pointer (some ⟨1, 31, none⟩)])) ∧ 0 < w.heap.size

theorem Handle.of {w : World} (hg : w.cell? ⟨0, 0, none⟩ = some (.iface 117 (.agg #[.pointer (some ⟨1, 31, none⟩)]))) : Handle w := by
  refine ⟨hg, ?_⟩
  rcases Nat.lt_or_ge 0 w.heap.size with h | h
  · exact h
  · simp [World.cell?, Array.getElem?_eq_none h] at hg
theorem Handle.alloc {w : World} (h : Handle w) (o : Obj) : Handle (w.alloc o) := by
  refine Handle.of ?_
  rw [World.cell?_alloc_lt _ _ ⟨0, 0, none⟩ h.2]; exact h.1
theorem Handle.below {w w' : World} {B : Nat} (h : Handle w) (hb : Below B w w') (hB : 0 < B) : Handle w' :=
  Handle.of ((hb.cell (p := ⟨0, 0, none⟩) hB).trans h.1)
theorem Handle.later {w w' : World} (h : Handle w) (hb : Below w.heap.size w w') : Handle w' := h.below hb h.2
theorem Handle.drew {w : World} (h : Handle w) : Handle w.drew := Handle.of h.1

end Go.Proofs.YtgiffaeckhhmpaaDoor
namespace Go.Proofs.YtgiffaeckhhmpaaDoor
set_option linter.unusedVariables false
set_option linter.unusedSimpArgs false
open Go.RowKit

theorem cell_new {w : World} {C : Array Value} {t : TypeId} {fr : Nat × Nat} {b k : Nat} (h : b = w.heap.size) : (w.alloc (.cells C t fr)).cell? ⟨b, k, none⟩ = C[k]? := by
  subst h; exact World.cell?_alloc_mark w C t fr k
theorem cell_old {w : World} {o : Obj} {b k : Nat} (h : b < w.heap.size) : (w.alloc o).cell? ⟨b, k, none⟩ = w.cell? ⟨b, k, none⟩ :=
  World.cell?_alloc_lt _ _ ⟨b, k, none⟩ h

end Go.Proofs.YtgiffaeckhhmpaaDoor
namespace Go.Proofs.YtgiffaeckhhmpaaDoor
set_option linter.unusedVariables false
set_option linter.unusedSimpArgs false
open Go.RowKit

/-- Behind each step of a walk: the table is there, errors' variable holds what it held, and new memory alone was made. -/
def St (w0 w : World) : Prop := TabIn w w0.heap.size ∧ Handle w ∧ Below w0.heap.size w0 w ∧ 0 < w0.heap.size
theorem St.new {w0 w : World} (h : Handle w0) (hT : TabIn w w0.heap.size) (hB : Below w0.heap.size w0 w) : St w0 w := ⟨hT, h.later hB, hB, h.2⟩
theorem St.tab {w0 w : World} (h : St w0 w) : TabIn w w0.heap.size := h.1
theorem St.handle {w0 w : World} (h : St w0 w) : Handle w := h.2.1
theorem St.bel {w0 w : World} (h : St w0 w) : Below w0.heap.size w0 w := h.2.2.1
theorem St.left {w0 w w' : World} (h : St w0 w) (hl : Left w0.heap.size w w') : St w0 w' :=
  have hb : Below w0.heap.size w w' := hl.2.below (Nat.le_refl _) h.2.2.1.size
  ⟨hl.1, h.2.1.below hb h.2.2.2, h.2.2.1.trans hb, h.2.2.2⟩
theorem St.later {w0 w w' : World} (h : St w0 w) (hb : Below w.heap.size w w') : St w0 w' :=
  ⟨h.1.below hb, h.2.1.later hb, h.2.2.1.trans (hb.mono h.2.2.1.size), h.2.2.2⟩
theorem St.alloc {w0 w : World} (h : St w0 w) (o : Obj) : St w0 (w.alloc o) := h.later ((Below.refl _ _).alloc (Nat.le_refl _) _)
theorem St.drew {w0 w : World} (h : St w0 w) : St w0 w.drew := ⟨h.1, h.2.1.drew, ⟨h.2.2.1.os, h.2.2.1.tape, h.2.2.1.output, h.2.2.1.size, h.2.2.1.block⟩, h.2.2.2⟩
end Go.Proofs.YtgiffaeckhhmpaaDoor
namespace Go.Proofs.YtgiffaeckhhmpaaDoor
set_option linter.unusedVariables false
set_option linter.unusedSimpArgs false
open Go.RowKit

theorem Left.base {tb : Nat} {w0 w w' : World} (h : Left tb w w') (hb : Below w0.heap.size w0 w) : Left tb w0 w' := ⟨h.1, (Own.of_below hb).trans h.2⟩
theorem ThrR.base {tb x K E : Nat} {S : Nat → Sh} {w0 w w' : World} {e : Ending} (h : ThrR tb S x K E w e w') (hb : Below w0.heap.size w0 w) : ThrR tb S x K E w0 e w' := by
  rcases h with ⟨h0, g, h1, h2, h3, h4⟩ | ⟨h0, h1, h2⟩
  · exact .inl ⟨h0, g, h1, Nat.le_trans hb.size h2, h3, h4.base hb⟩
  · exact .inr ⟨h0, h1, h2.base hb⟩
set_option maxRecDepth 100000 in
set_option maxHeartbeats 1000000 in
theorem through_bad (tp : Option Addr) (n cs : Nat) (K N gen x : Int) (oa : Option Addr) (w : World) (h : tp = none ∨ ¬ MayP K N) :
    Calls Tryd.prog 42 #[.pointer tp, .slice oa n cs, .agg #[.int .i64 K, .int .i64 N, .int .u32 gen], .int .u8 x] w fun e w' => e = .returned (.tuple #[.slice none 0 0, .iface 83 (.int .i64 1)]) ∧ Below w.heap.size w w' := by
  cases tp with
  | none =>
    clear h
    go_enter Tryd.func42, Tryd.ntmps42
    go_wp2_with fail
    go_ret2
    exact ⟨rfl, (Below.refl _ _).alloc (Nat.le_refl _) _⟩
  | some a =>
    have hm : ¬ MayP K N := h.resolve_left (by simp)
    have HC := Lib.hid (fun w => check_no K N gen w hm)
    clear h hm
    go_enter Tryd.func42, Tryd.ntmps42
    go_wp2_with fail
    refine (HC.out _).mono ?_
    rintro e w1 ⟨rfl, hb⟩
    have HB1 : Hid (Below w.heap.size w w1) := Lib.hid (((Below.refl _ _).alloc (Nat.le_refl _) _).trans (hb.mono (by simp)))
    clear hb
    go_wp2_with fail
    go_ret2
    exact ⟨rfl, HB1.out⟩
set_option maxRecDepth 100000 in
set_option maxHeartbeats 1000000 in
theorem combine_bad (tp : Option Addr) (n cs : Nat) (K N gen : Int) (oa : Option Addr) (w : World) (h : tp = none ∨ ¬ MayP K N) :
    Calls Tryd.prog 28 #[.pointer tp, .slice oa n cs, .agg #[.int .i64 K, .int .i64 N, .int .u32 gen]] w fun e w' => e = .returned (.tuple #[.slice none 0 0, .iface 83 (.int .i64 1)]) ∧ Below w.heap.size w w' := by
  have HC := Lib.hid (fun w => through_bad tp n cs K N gen 0 oa w h)
  clear h
  go_enter Tryd.func28, Tryd.ntmps28
  go_wp2_with fail
  refine (HC.out _).mono ?_
  rintro e w1 ⟨rfl, hb⟩
  have HB1 : Hid (Below w.heap.size w w1) := Lib.hid (((Below.refl _ _).alloc (Nat.le_refl _) _).trans (hb.mono (by simp)))
  clear hb
  go_wp2_with fail
  go_ret2
  exact ⟨rfl, HB1.out⟩
set_option maxRecDepth 100000 in
set_option maxHeartbeats 1000000 in
theorem combine_any (tb n cs Kp N gen : Nat) (oa : Option Addr) (S : Nat → Sh) (w : World) (hT : TabIn w tb) (hS : Shs tb w oa n S) (hix : ∀ i, i < n → (S i).ix < 256) (hnc : n ≤ cs) (hm : cs ≤ maxLen) (h2 : 2 ≤ Kp) (hKN : Kp ≤ N) (hN : N ≤ 255) :
    Calls Tryd.prog 28 #[.pointer (some ⟨tb, 0, none⟩), .slice oa n cs, .agg #[.int .i64 (Kp : Int), .int .i64 (N : Int), .int .u32 (gen : Int)]] w (ThrR tb S 0 Kp (needE S n Kp gen) w) := by
  obtain ⟨w0, hw0⟩ : ∃ x, w.alloc (.cells #[.int .i64 (Kp : Int), .int .i64 (N : Int), .int .u32 (gen : Int)] 26) = x := ⟨_, rfl⟩
  have hb : Below w.heap.size w w0 := by rw [← hw0]; exact (Below.refl _ _).alloc (Nat.le_refl _) _
  have HC := Lib.hid (through_any tb n cs Kp N gen 0 oa S w0 (hT.below hb) (hS.later hb) hix hnc hm h2 hKN hN (by decide))
  have HBE := Lib.hid hb
  obtain ⟨E, hE⟩ : ∃ x, needE S n Kp gen = x := ⟨_, rfl⟩
  rw [hE] at HC ⊢
  have c9 : w0.cell? ⟨w.heap.size, 0, none⟩ = some (.int .i64 (Kp : Int)) := by rw [← hw0]; exact World.cell?_alloc_mark _ _ _ _ _
  have c8 : w0.cell? ⟨w.heap.size, 1, none⟩ = some (.int .i64 (N : Int)) := by rw [← hw0]; exact World.cell?_alloc_mark _ _ _ _ _
  have c7 : w0.cell? ⟨w.heap.size, 2, none⟩ = some (.int .u32 (gen : Int)) := by rw [← hw0]; exact World.cell?_alloc_mark _ _ _ _ _
  clear hT hS hix hnc hm h2 hKN hN hE hb
  go_enter Tryd.func28, Tryd.ntmps28
  go_wp2_with fail
  refine HC.out.mono ?_
  intro e w1 hR
  have HR := Lib.hid (hR.base HBE.out)
  rcases hR with ⟨-, g, rfl, -⟩ | ⟨-, rfl, -⟩
  · go_wp2_with fail
    go_ret2
    exact HR.out
  · go_wp2_with fail
    go_ret2
    exact HR.out
/-- What At answers. -/
def AtR (tb : Nat) (S : Nat → Sh) (x gen K E : Nat) (w : World) (e : Ending) (w' : World) : Prop :=
  (E = 0 ∧ ∃ g, e = .returned (.tuple #[.agg #[.int .u8 (x : Int), .int .u32 (gen : Int), .slice (some ⟨g, 0, none⟩) (S 0).len (S 0).len], .nilIface]) ∧ w.heap.size ≤ g ∧ Row w' g (S 0).len (jnF S x K) ∧ Left tb w w') ∨
  (E ≠ 0 ∧ e = .returned (.tuple #[.agg #[.int .u8 0, .int .u32 0, .slice none 0 0], .iface 83 (.int .i64 (E : Int))]) ∧ Left tb w w')
theorem AtR.base {tb x gen K E : Nat} {S : Nat → Sh} {w0 w w' : World} {e : Ending} (h : AtR tb S x gen K E w e w') (hb : Below w0.heap.size w0 w) : AtR tb S x gen K E w0 e w' := by
  rcases h with ⟨h0, g, h1, h2, h3, h4⟩ | ⟨h0, h1, h2⟩
  · exact .inl ⟨h0, g, h1, Nat.le_trans hb.size h2, h3, h4.base hb⟩
  · exact .inr ⟨h0, h1, h2.base hb⟩
theorem wpList_value {ops : Array Oper} {rest : List Oper} {o : Oper} {a : Act} {w : World} {Q : Exit → Act → World → Prop} {v : Value} (hgd : o.guard = none) (he : (execOp a.eval o).run Tryd.prog w = .ok (.value v) w)
    (hk : wpList Tryd.prog ops Q rest (a.put o.dst v) w) : wpList Tryd.prog ops Q (o :: rest) a w := by
  refine wpList_plain hgd fun K hK => ?_
  unfold Oper.wp
  rw [he]
  exact hK _ _ hk
theorem exec_loadM {o : Oper} {a : Act} {w : World} {ty : TypeId} {x : Operand} {b f : Nat} {cs : List Value} {d : TypeDesc} (ho : o.op = .load ty x) (hx : a.eval x = .pointer (some ⟨b, f, none⟩)) (hc : w.rangeAt b f cs)
    (hu : Tryd.prog.underlying ty = some d) (hd : d.isRow = true) (hi : (Tryd.prog.info? ty).map (·.size) = some cs.length) : (execOp a.eval o).run Tryd.prog w = .ok (.value (.agg cs.toArray)) w := by
  unfold execOp
  simp only [ho, hx, Instr.loadAt, Instr.sureAddr, Sem.run_bind, Sem.run_pure, Result.andThen_ok, run_loadVar_mid w b f ty cs d hc hu hd hi]
theorem results_cell_tmp' {P : Program} {fn : Func} {p q : Tmp} {ty : TypeId} (h : fn.results = #[.cell p ty, .tmp q]) (tmps : Array Value) (w : World) (g : Nat) (t : TypeId) (cs : Array Value) (fr : Nat × Nat) (d : TypeDesc)
    (hp : tmps.getD p undef = .pointer (some ⟨g, 0, none⟩)) (hg : w.heap[g]? = some (.cells cs t fr))
    (hu : P.underlying ty = some d) (hd : (match d with | .struct _ | .array _ _ => true | _ => false) = true) (hi : (P.info? ty).map (·.size) = some cs.size) :
    (results fn tmps).run P w = .ok (.tuple #[.agg cs, tmps.getD q undef]) w := by
  have hp' : tmps[p]?.getD undef = .pointer (some ⟨g, 0, none⟩) := by simpa using hp
  simp [results, h, hp', asAddr, run_loadVar_row w g t ty cs fr d hg hu hd hi]
/-- A block of a part, stored over whole. -/
theorem Blk.whole3 {w : World} {b : Nat} {D : Array Value} {t : TypeId} (h : Blk w b D t) (hs : D.size = 3) (x y z : Value) : Blk (w.setCells b 0 [x, y, z]) b #[x, y, z] t := Blk.setCells h [x, y, z] hs.symm
theorem zsh_run (w : World) : (zeroValue 42).run Tryd.prog w = .ok (.agg #[.int .u8 0, .int .u32 0, .slice none 0 0]) w := by kernel_rfl
theorem build_zsh (w : World) : (Instr.build 42 #[]).run Tryd.prog w = .ok (.agg #[.int .u8 0, .int .u32 0, .slice none 0 0]) w := run_build w 42 _ _ (by kernel_rfl)
end Go.Proofs.YtgiffaeckhhmpaaDoor
namespace Go.Proofs.YtgiffaeckhhmpaaDoor
set_option linter.unusedVariables false
set_option linter.unusedSimpArgs false
open Go.RowKit

set_option maxHeartbeats 400000 in
theorem num_nil03 (w : World) :
    Calls Tryd.prog 11 #[.nilIface] w fun e w' => e = .returned (.int .i64 0) ∧ Below w.heap.size w w' := by
  go_enter Tryd.func11, Tryd.ntmps11
  go_wp2
  go_ret
  exact ⟨rfl, (Below.refl _ _).alloc (Nat.le_refl _) _⟩

set_option maxHeartbeats 400000 in
theorem num_err03 (n : Int) (w : World) (h : Handle w) :
    Calls Tryd.prog 11 #[.iface 83 (.int .i64 n)] w fun e w' => e = .returned (.int .i64 n) ∧ Below w.heap.size w w' := by
  have hA := as_hit n ⟨w.heap.size, 0, none⟩ (.int .i64 0) (w.alloc (.cells #[.int .i64 0] 83)) (h.alloc _).1 (by simp) (by simp)
  go_enter Tryd.func11, Tryd.ntmps11
  go_wp2_with fail
  refine hA.mono ?_
  rintro e w' ⟨rfl, rfl⟩
  go_wp2
  go_ret
  refine ⟨rfl, ?_⟩
  exact (((((Below.refl _ _).alloc (Nat.le_refl _) _).alloc (by simp) _).alloc (by simp; omega) _).alloc (by simp; omega) _).alloc (by simp; omega) _

end Go.Proofs.YtgiffaeckhhmpaaDoor
namespace Go.Proofs.YtgiffaeckhhmpaaDoor
set_option linter.unusedVariables false
set_option linter.unusedSimpArgs false
open Go.RowKit

theorem SR.isSh {tb : Nat} {wA w : World} {N L gen : Nat} {F : Nat → Nat → Nat} (h : SR tb wA N L gen F w) (hF : ∀ x j, x < N → j < L → F x j < 256) (hL : L ≤ maxLen) {i : Nat} (hi : i < N) : IsSh tb w (shC gen wA.heap.size L i) ⟨i + 1, gen, L, F i⟩ :=
  ⟨some ⟨wA.heap.size + 1 + i, 0, none⟩, L, rfl, (h.rows i hi).bytes fun j hj => hF i j hi hj, (fun e => by cases e), Nat.le_refl _, hL, Apart.of_ne (by have := h.low; omega)⟩
theorem SR.rangeO {tb : Nat} {wA w w' : World} {N L gen : Nat} {F : Nat → Nat → Nat} (h : SR tb wA N L gen F w) (hO : Own tb w w') {i : Nat} (hi : i < N) : w'.rangeAt wA.heap.size (i * 3) (shC gen wA.heap.size L i) := fun j v hv => by
  have hj : j < 3 := (List.getElem?_eq_some_iff.1 hv).1
  rw [Blk.cell (hO.blk h.blk (by have := h.low; omega)), List.getElem?_toArray, rws_get (k := 3) (fun _ _ => rfl) hi hj]; exact hv
/-- Two parts in a block of their own. -/
def two2 (a b : Sh) : Nat → Sh := fun i => if i = 0 then a else b
theorem Shs.lit2 {tb g : Nat} {w : World} {C0 C1 : List Value} {s0 s1 : Sh} {t : TypeId} (hB : Blk w g (C0 ++ C1).toArray t) (hg : g ≠ tb) (h0 : IsSh tb w C0 s0) (h1 : IsSh tb w C1 s1) : Shs tb w (some ⟨g, 0, none⟩) 2 (two2 s0 s1) := fun i hi => by
  have l0 : C0.length = 3 := by obtain ⟨_, _, rfl, _⟩ := h0; rfl
  match i, hi with
  | 0, _ =>
    refine ⟨g, 0, C0, rfl, hg, h0, fun j hj => ?_⟩
    rw [Blk.cell hB, List.getElem?_toArray, List.getElem?_append_left (by omega)]; congr 1; omega
  | 1, _ =>
    refine ⟨g, 0, C1, rfl, hg, h1, fun j hj => ?_⟩
    rw [Blk.cell hB, List.getElem?_toArray, List.getElem?_append_right (by omega), l0]; congr 1; omega
theorem strF_one {f : Nat → Nat} {x : Nat} (h : f 0 = x) : strF 1 f = ⟨#[UInt8.ofNat x]⟩ := by
  subst h
  rfl
theorem info_plan3 : (Tryd.prog.info? 26).map (·.size) = some 3 := by kernel_rfl
theorem Blk.range0 {w : World} {b : Nat} {C : List Value} {t : TypeId} (h : Blk w b C.toArray t) : w.rangeAt b 0 C := fun j v hv => by
  rw [Nat.zero_add, Blk.cell h j]; simpa using hv
def Comb2 (tb : Nat) (w : World) (e : Ending) (w' : World) : Prop := ∃ g', e = .returned (.tuple #[.slice (some ⟨g', 0, none⟩) 1 1, .nilIface]) ∧ w.heap.size ≤ g' ∧ Row w' g' 1 (fun _ => 5) ∧ Left tb w w'
theorem comb_two {tb g : Nat} {w : World} {f2 f0 : Nat → Nat} (hT : TabIn w tb) (hS : Shs tb w (some ⟨g, 0, none⟩) 2 (two2 ⟨3, 7, 1, f2⟩ ⟨1, 7, 1, f0⟩)) (h2 : f2 0 = 0) (h0 : f0 0 = 6) :
    Calls Tryd.prog 28 #[.pointer (some ⟨tb, 0, none⟩), .slice (some ⟨g, 0, none⟩) 2 2, .agg #[.int .i64 2, .int .i64 3, .int .u32 7]] w (Comb2 tb w) := by
  refine (combine_any tb 2 2 2 3 7 (some ⟨g, 0, none⟩) _ w hT hS (fun i hi => ?_) (by decide) (by unfold maxLen; decide) (by decide) (by decide) (by decide)).mono ?_
  · unfold two2; split
    · exact (by decide : 3 < 256)
    · exact (by decide : 1 < 256)
  · have hE : needE (two2 ⟨3, 7, 1, f2⟩ ⟨1, 7, 1, f0⟩) 2 2 7 = 0 := rfl
    have ei : (fun q => (two2 ⟨3, 7, 1, f2⟩ ⟨1, 7, 1, f0⟩ q).ix) = fun q => if q = 0 then 3 else 1 := by funext q; unfold two2; split <;> rfl
    have hj : jnF (two2 ⟨3, 7, 1, f2⟩ ⟨1, 7, 1, f0⟩) 0 2 0 = 5 := by
      unfold jnF
      rw [ei]
      show 0 ^^^ mulN (wF (fun q => if q = 0 then 3 else 1) 0 0 2) (f2 0) ^^^ mulN (wF (fun q => if q = 0 then 3 else 1) 1 0 2) (f0 0) = 5
      rw [h2, h0]
      decide +kernel
    rintro e w' (⟨-, g', he, hg, hR, hL⟩ | ⟨h9, -⟩)
    · exact ⟨g', he, hg, hR.congr (fun i hi => by obtain rfl : i = 0 := by (have : i < 1 := hi; omega)
                                                  exact hj), hL⟩
    · exact absurd hE h9
theorem comb_one {tb : Nat} {w : World} {oa : Option Addr} {cs : Nat} {S : Nat → Sh} (hT : TabIn w tb) (hS : Shs tb w oa 1 S) (hx : (S 0).ix < 256) (hc : 1 ≤ cs) (hm : cs ≤ maxLen) :
    Calls Tryd.prog 28 #[.pointer (some ⟨tb, 0, none⟩), .slice oa 1 cs, .agg #[.int .i64 2, .int .i64 3, .int .u32 7]] w fun e w' => e = .returned (.tuple #[.slice none 0 0, .iface 83 (.int .i64 2)]) ∧ Left tb w w' := by
  refine (combine_any tb 1 cs 2 3 7 oa S w hT hS (fun i hi => by obtain rfl : i = 0 := by omega
                                                                 exact hx) hc hm (by decide) (by decide) (by decide)).mono ?_
  have hE : needE S 1 2 7 = 2 := needE_short (by decide)
  rw [hE]
  rintro e w' (⟨h9, -⟩ | ⟨-, he, hL⟩)
  · cases h9
  · exact ⟨he, hL⟩
def sF (x : Nat) : Nat → Nat := shF (fun _ => 5) (fun _ => 3) 1 (x + 1)
theorem sF_lt (x j : Nat) : sF x j < 256 := shF_lt _ _ _ _ _
theorem sure_cells {tb d0 d1 d2 : Nat} {wA w : World} (h : SR tb wA 3 1 7 sF w) (h0 : wA.heap.size + 1 + 0 = d0) (h1 : wA.heap.size + 1 + 1 = d1) (h2 : wA.heap.size + 1 + 2 = d2) :
    w.cell? ⟨wA.heap.size, 2, none⟩ = some (.slice (some ⟨d0, 0, none⟩) 1 1) ∧ w.cell? ⟨wA.heap.size, 4, none⟩ = some (.int .u32 7) ∧ w.cell? ⟨wA.heap.size, 5, none⟩ = some (.slice (some ⟨d1, 0, none⟩) 1 1) ∧ w.cell? ⟨wA.heap.size, 8, none⟩ = some (.slice (some ⟨d2, 0, none⟩) 1 1) ∧ w.cell? ⟨d0, 0, none⟩ = some (.int .u8 6) ∧ w.cell? ⟨d1, 0, none⟩ = some (.int .u8 3) ∧ w.cell? ⟨d2, 0, none⟩ = some (.int .u8 0) := by
  have e0 := h.cells (i := 0) (by decide)
  have e1 := h.cells (i := 1) (by decide)
  have e2 := h.cells (i := 2) (by decide)
  rw [h0] at e0
  rw [h1] at e1
  rw [h2] at e2
  have q0 := (h.rows 0 (by decide)).cell (i := 0) (by decide)
  have q1 := (h.rows 1 (by decide)).cell (i := 0) (by decide)
  have q2 := (h.rows 2 (by decide)).cell (i := 0) (by decide)
  rw [h0, show sF 0 0 = 6 by decide +kernel] at q0
  rw [h1, show sF 1 0 = 3 by decide +kernel] at q1
  rw [h2, show sF 2 0 = 0 by decide +kernel] at q2
  exact ⟨e0.2.2, e1.2.1, e1.2.2, e2.2.2, q0, q1, q2⟩

end Go.Proofs.YtgiffaeckhhmpaaDoor
namespace Go.Proofs.YtgiffaeckhhmpaaDoor
set_option linter.unusedVariables false
set_option linter.unusedSimpArgs false
open Go.RowKit

theorem results_tct {P : Program} {fn : Func} {p q r : Tmp} {ty : TypeId} (h : fn.results = #[.tmp p, .cell q ty, .tmp r]) (tmps : Array Value) (w : World) (g : Nat) (t : TypeId) (cs : Array Value) (fr : Nat × Nat) (d : TypeDesc)
    (hp : tmps.getD q undef = .pointer (some ⟨g, 0, none⟩)) (hg : w.heap[g]? = some (.cells cs t fr))
    (hu : P.underlying ty = some d) (hd : (match d with | .struct _ | .array _ _ => true | _ => false) = true) (hi : (P.info? ty).map (·.size) = some cs.size) :
    (results fn tmps).run P w = .ok (.tuple #[tmps.getD p undef, .agg cs, tmps.getD r undef]) w := by
  have hp' : tmps[q]?.getD undef = .pointer (some ⟨g, 0, none⟩) := by simpa using hp
  simp [results, h, hp', asAddr, run_loadVar_row w g t ty cs fr d hg hu hd hi]
theorem one_plan (a b c : Int) : (#[Value.int .i64 a, Value.int .i64 b, Value.int .u32 c] : Array Value).all (·.oneCell') = true := all_oneCell_toArray fun v hv => by
  simp at hv
  rcases hv with rfl | rfl | rfl <;> rfl
theorem build_plan (a b c : Int) (w : World) : (Instr.build 26 #[(0, .int .i64 a), (1, .int .i64 b), (2, .int .u32 c)]).run Tryd.prog w = .ok (.agg #[.int .i64 a, .int .i64 b, .int .u32 c]) w := run_build w 26 _ _ (by kernel_rfl)
theorem zpl_run (w : World) : (zeroValue 26).run Tryd.prog w = .ok (.agg #[.int .i64 0, .int .i64 0, .int .u32 0]) w := by kernel_rfl
/-- What laid gives: a secret of at most 40 bytes, a plan, its draws. -/
structure Laid3 (w : World) (sb so L cs k N db : Nat) (s d : Nat → Nat) (w' : World) : Prop where
  sec : Bytes w' (some ⟨sb, so, none⟩) L s
  dr : Bytes w' (some ⟨db, 0, none⟩) (L * k) d
  new : w.heap.size ≤ db
  low : sb ≠ db
  l1 : 1 ≤ L
  l40 : L ≤ 40
  k1 : 1 ≤ k
  k6 : k ≤ 6
  nk : k + 1 ≤ N
  n15 : N ≤ 15
  lc : L ≤ cs
  cm : cs ≤ maxLen
  bel : Below w.heap.size w w'
def LaidR (w : World) (e : Ending) (w' : World) : Prop := ∃ (sb so L cs k N db : Nat) (s d : Nat → Nat), e = .returned (.tuple #[.slice (some ⟨sb, so, none⟩) L cs, .agg #[.int .i64 ((k + 1 : Nat) : Int), .int .i64 (N : Int), .int .u32 5], .slice (some ⟨db, 0, none⟩) (L * k) (L * k)]) ∧ Laid3 w sb so L cs k N db s d w'
/-- A number as one without a sign, its rest. -/
theorem u64_rest (K : Int) : ∃ u : Nat, IntKind.u64.wrap K = (u : Int) := ⟨(IntKind.u64.wrap K).toNat, by
  have : 0 ≤ IntKind.u64.wrap K := by simp [IntKind.wrap, IntKind.bits, IntKind.signed]; omega
  omega⟩

end Go.Proofs.YtgiffaeckhhmpaaDoor
namespace Go.Proofs.YtgiffaeckhhmpaaDoor
set_option linter.unusedVariables false
set_option linter.unusedSimpArgs false
open Go.RowKit

theorem Own.then_new {tb g : Nat} {w0 w w' : World} (h : Own tb w0 w) (hO : Own g w w') (hg : w0.heap.size ≤ g) : Own tb w0 w' :=
  ⟨hO.os.trans h.os, hO.tape.trans h.tape, hO.output.trans h.output, Nat.le_trans h.size hO.size, fun k hk hn => (hO.block k (by have := h.size; omega) (by omega)).trans (h.block k hk hn)⟩
theorem Own.then_fresh {tb : Nat} {w0 w w' : World} (h : Own tb w0 w) (hb : Below w.heap.size w w') : Own tb w0 w' := h.trans (Own.of_below hb)
theorem SR.belowB {tb B : Nat} {wA w w' : World} {N L gen : Nat} {F : Nat → Nat → Nat} (h : SR tb wA N L gen F w) (hb : Below B w w') (hB : wA.heap.size + 1 + N ≤ B) : SR tb wA N L gen F w' :=
  ⟨Blk.below h.blk hb (by omega), fun x hx => Blk.below (h.rows x hx) hb (by omega), by have := h.big; have := hb.size; omega,
    h.tab.elim (fun t => .inl ⟨Blk.below t.1 hb (by have := h.low; omega), t.2⟩) (fun t => .inr ⟨Blk.below t.1 hb (by have := h.low; omega), t.2⟩),
    ⟨hb.os.trans h.own.os, hb.tape.trans h.own.tape, hb.output.trans h.own.output, Nat.le_trans h.own.size hb.size, fun k hk hn => (hb.block k (by omega)).trans (h.own.block k hk hn)⟩, h.low⟩
/-- A row of n parts' cells at the head of a block. -/
def MRow (w : World) (g n : Nat) (C : Nat → List Value) : Prop := ∃ D : Array Value, Blk w g D 42 ∧ n * 3 ≤ D.size ∧ D.toList.take (n * 3) = rws n C
theorem MRow.lt {w : World} {g n : Nat} {C : Nat → List Value} (h : MRow w g n C) : g < w.heap.size := by obtain ⟨D, h, _⟩ := h; exact h.lt
theorem MRow.below {w w' : World} {g n B : Nat} {C : Nat → List Value} (h : MRow w g n C) (hb : Below B w w') (hB : g < B) : MRow w' g n C := by obtain ⟨D, h, r⟩ := h; exact ⟨D, h.below hb hB, r⟩
theorem MRow.later {w w' : World} {g n : Nat} {C : Nat → List Value} (h : MRow w g n C) (hb : Below w.heap.size w w') : MRow w' g n C := h.below hb h.lt
theorem MRow.own {w w' : World} {g n b : Nat} {C : Nat → List Value} (h : MRow w g n C) (hO : Own b w w') (hn : g ≠ b) : MRow w' g n C := by obtain ⟨D, h, r⟩ := h; exact ⟨D, hO.blk h hn, r⟩
theorem MRow.drew {w : World} {g n : Nat} {C : Nat → List Value} (h : MRow w g n C) : MRow w.drew g n C := h
theorem MRow.congr {w : World} {g n : Nat} {C C' : Nat → List Value} (h : MRow w g n C) (he : ∀ i, i < n → C i = C' i) : MRow w g n C' := by
  obtain ⟨D, h1, h2, h3⟩ := h; exact ⟨D, h1, h2, by rw [h3]; exact rws_congr he⟩
theorem MRow.cell {w : World} {g n : Nat} {C : Nat → List Value} (h : MRow w g n C) (hC : ∀ i, i < n → (C i).length = 3) {i j : Nat} (hi : i < n) (hj : j < 3) : w.cell? ⟨g, i * 3 + j, none⟩ = (C i)[j]? := by
  obtain ⟨D, h1, h2, h3⟩ := h
  have hlt : i * 3 + j < n * 3 := by omega
  rw [Blk.cell h1, ← Array.getElem?_toList, ← List.getElem?_take_of_lt hlt, h3]
  exact rws_get hC hi hj
theorem MRow.range {w : World} {g n : Nat} {C : Nat → List Value} (h : MRow w g n C) (hC : ∀ i, i < n → (C i).length = 3) {i : Nat} (hi : i < n) : w.rangeAt g (i * 3) (C i) := fun j v hv => by
  have hj : j < 3 := by have := (List.getElem?_eq_some_iff.1 hv).1; rw [hC i hi] at this; exact this
  rw [h.cell hC hi hj]; exact hv
theorem MRow.there {w : World} {g n : Nat} {C : Nat → List Value} (h : MRow w g n C) {i : Nat} (hi : i < n) : w.there g (i * 3) 3 := by
  obtain ⟨D, h1, h2, _⟩ := h; exact Blk.thereM h1 (by omega)
theorem MRow.set3 {w : World} {g n i : Nat} {C : Nat → List Value} (h : MRow w g n C) (hC : ∀ i, i < n → (C i).length = 3) (hi : i < n) (x y z : Value) : MRow (w.setCells g (i * 3) [x, y, z]) g n (fun q => if q = i then [x, y, z] else C q) := by
  obtain ⟨D, h1, h2, h3⟩ := h
  have e := ((h1.set (i * 3) x).set (i * 3 + 1) y).set (i * 3 + 1 + 1) z
  refine ⟨_, e, by simp only [Array.size_setIfInBounds]; exact h2, ?_⟩
  rw [← rws_set3 hC hi x y z, ← h3]
  simp only [Array.toList_setIfInBounds, List.take_set]
/-- They are parts. -/
theorem MRow.shs {tb g n : Nat} {w : World} {C : Nat → List Value} {S : Nat → Sh} (h : MRow w g n C) (hg : g ≠ tb) (hS : ∀ i, i < n → IsSh tb w (C i) (S i)) : Shs tb w (some ⟨g, 0, none⟩) n S := fun i hi => by
  have hC : ∀ i, i < n → (C i).length = 3 := fun i hi => by obtain ⟨_, _, e, _⟩ := hS i hi; rw [e]; rfl
  exact ⟨g, 0, C i, rfl, hg, hS i hi, fun j hj => by rw [Nat.zero_add]; exact h.cell hC hi hj⟩
theorem MRow.of_owns {w : World} {base n : Nat} {v : Value} {C : Nat → List Value} (h : w.ownsRow base 42 3 v n (rws n C)) (hn : 0 < n) : ∃ g cap, v = .slice (some ⟨g, 0, none⟩) n cap ∧ base ≤ g ∧ n ≤ cap ∧ cap ≤ maxLen ∧ MRow w g n C := by
  rcases h.2 with ⟨_, h0⟩ | ⟨g, cap, cur, hv, hb, hh, hnc, hm, hsz, hcur⟩
  · omega
  · exact ⟨g, cap, hv, hb, hnc, hm, cur, hh, by rw [hsz]; exact Nat.mul_le_mul_right 3 hnc, hcur⟩
/-- append of parts that lie in one row, onto an empty one: at the operation. -/
theorem wpList_appSh {ops : Array Oper} {rest : List Oper} {o : Oper} {a : Act} {Q : Exit → Act → World → Prop} (hgd : o.guard = none) (s x : Operand)
    (ho : o.op = .call { callee := .builtin .append, args := #[s, x], argTypes := #[29, 29] })
    (g h n c : Nat) (C : Nat → List Value) (W : World) (hs : a.eval s = .slice (some ⟨g, 0, none⟩) 0 0) (hg : Blk W g #[] 42) (hx : a.eval x = .slice (some ⟨h, 0, none⟩) n c) (hR : Blk W h (rws n C).toArray 42) (hC : ∀ i, i < n → (C i).length = 3) (hC1 : ∀ i, i < n → ∀ u ∈ C i, u.oneCell' = true) (hn : 0 < n) (hn2 : n ≤ 1000)
    (hk : ∀ g' cap w', g ≤ g' → n ≤ cap → cap ≤ maxLen → MRow w' g' n C → Below g W w' → wpList Tryd.prog ops Q rest (a.put o.dst (.slice (some ⟨g', 0, none⟩) n cap)) w') :
    wpList Tryd.prog ops Q (o :: rest) a W := by
  obtain ⟨i0, hi, hz0, hz1, hz2⟩ := info_parts info_share
  have hlen : (rws n C).length = n * 3 := rws_len hC
  refine wpList_append_own_at _ hgd s x 29 ho g 42 i0 _ 3 32 Tryd.underlying29 hi hz0 hz1 hz2 rfl (by decide) (.slice (some ⟨g, 0, none⟩) 0 0) 0 [] hs ⟨rfl, .inr ⟨g, 0, #[], rfl, Nat.le_refl _, hg, Nat.le_refl _, by unfold maxLen; omega, rfl, rfl⟩⟩ ⟨h, 0, none⟩ n c (rws n C) hx hlen
    (fun j u hu => ?_) (fun u hu => ?_) (by unfold maxLen; omega) (by omega) (Nat.le_of_lt hg.lt) ?_
  · have ha : (Addr.mk h 0 none).add j = ⟨h, j, none⟩ := by
      unfold Addr.add; split
      · rename_i hk0; subst hk0; rfl
      · simp
    rw [ha, Blk.cell hR]; simpa using hu
  · unfold rws at hu
    obtain ⟨i, hi1, hi2⟩ := List.mem_flatMap.1 hu
    exact hC1 i (List.mem_range.1 hi1) u hi2
  · intro v' w' hown' hgr _ _
    rw [Nat.zero_add, List.nil_append] at hown'
    obtain ⟨g', cap, rfl, hb, hnc, hm, hM⟩ := MRow.of_owns hown' hn
    exact hk g' cap w' hb hnc hm hM ((Below.refl _ _).grown hgr (Nat.le_of_lt hg.lt) (fun k hk => by simp [Value.ownBlock] at hk; omega))
theorem step_valueG {ops : Array Oper} {o : Oper} {a : Act} {w : World} {K : Act → World → Prop} {Q : Exit → Act → World → Prop} {E : Prop} {v : Value} (hw : Region.wanted o (yielded ops a.tmps) = true) (he : (execOp a.eval o).run Tryd.prog w = .ok (.value v) w)
    (h : K (a.put o.dst v) w) : if Region.wanted o (yielded ops a.tmps) = true then Oper.wp Tryd.prog o a w K Q else E := by
  rw [if_pos hw]
  unfold Oper.wp
  rw [he]
  exact h
theorem shC_one (gen H L x : Nat) : ∀ u ∈ shC gen H L x, u.oneCell' = true := fun u hu => by
  simp only [shC, List.mem_cons, List.not_mem_nil, or_false] at hu
  rcases hu with rfl | rfl | rfl <;> rfl
/-- Two places change. -/
def swp (p : Nat → Nat) (a b : Nat) : Nat → Nat := fun q => if q = b then p a else if q = a then p b else p q
theorem swp_lt {p : Nat → Nat} {a b N : Nat} (h : ∀ i, i < N → p i < N) (ha : a < N) (hb : b < N) : ∀ i, i < N → swp p a b i < N := fun i hi => by
  unfold swp; split
  · exact h a ha
  · split
    · exact h b hb
    · exact h i hi
theorem swp_inj {p : Nat → Nat} {a b N : Nat} (h : ∀ i j, i < N → j < N → p i = p j → i = j) (ha : a < N) (hb : b < N) : ∀ i j, i < N → j < N → swp p a b i = swp p a b j → i = j := fun i j hi hj he => by
  unfold swp at he
  by_cases i1 : i = b <;> by_cases j1 : j = b
  · omega
  · rw [if_pos i1, if_neg j1] at he
    by_cases j2 : j = a
    · rw [if_pos j2] at he; have := h a b ha hb he; omega
    · rw [if_neg j2] at he; have := h a j ha hj he; omega
  · rw [if_neg i1, if_pos j1] at he
    by_cases i2 : i = a
    · rw [if_pos i2] at he; have := h b a hb ha he; omega
    · rw [if_neg i2] at he; have := h i a hi ha he; omega
  · rw [if_neg i1, if_neg j1] at he
    by_cases i2 : i = a <;> by_cases j2 : j = a
    · omega
    · rw [if_pos i2, if_neg j2] at he; have := h b j hb hj he; omega
    · rw [if_neg i2, if_pos j2] at he; have := h i b hi hb he; omega
    · rw [if_neg i2, if_neg j2] at he; exact h i j hi hj he
/-- Parts of a secret, in whatever order. -/
def pS (p : Nat → Nat) (L : Nat) (F : Nat → Nat → Nat) : Nat → Sh := fun i => ⟨p i + 1, 5, L, F (p i)⟩
theorem pS_need {p : Nat → Nat} {L n K : Nat} {F : Nat → Nat → Nat} (h : ∀ i j, i < K → j < K → p i = p j → i = j) (hn : K ≤ n) (h1 : 1 ≤ L) (h2 : L ≤ 64) : needE (pS p L F) n K 5 = 0 :=
  needE_ok (by omega) (fun _ _ => rfl) fun i hi => badB_of (Nat.succ_ne_zero _) (by
    rcases hs : seenB (fun q => (pS p L F q).ix) i (pS p L F i).ix with _ | _
    · rfl
    · obtain ⟨q, hq, e⟩ := seenB_iff.1 hs
      have e2 : p q + 1 = p i + 1 := e
      have := h q i (by omega) hi (by omega)
      omega) rfl ⟨h1, h2⟩
theorem pS_join {p s d : Nat → Nat} {L k j N : Nat} (hs : ∀ j, j < L → s j < 256) (hd : ∀ i, i < L * k → d i < 256) (hj : j < L) (hp : ∀ i, i < k + 1 → p i < N) (hN : N ≤ 255) (h : ∀ i j, i < k + 1 → j < k + 1 → p i = p j → i = j) {x : Nat} (hx : x < 256) :
    jnF (pS p L (fun x => shF s d k (x + 1))) x (k + 1) j = shF s d k x j := by
  rw [← shares_join (p := fun i => p i + 1) hs hd hj (fun i hi => by have := hp i hi; omega) (fun i q hiq hq e => by have := h i q (by omega) hq (by omega); omega) hx]
  exact xsum_congr (k + 1) fun i _ => mulN_comm _ _
end Go.Proofs.YtgiffaeckhhmpaaDoor
namespace Go.Proofs.YtgiffaeckhhmpaaDoor
set_option linter.unusedVariables false
set_option linter.unusedSimpArgs false
open Go.RowKit

theorem still_lit {id : Nat} {Q : Exit → Act → World → Prop} {a : Act} {w : World} {l : List Oper} (hm : Tryd.prog.follows .mixedOrders = true) (hB : Region.lexB .any l.toArray = true)
    (h : wpStill Tryd.prog l.toArray w.drew (fun a' => Q .normal a' w.drew) l a) : (Code.region id l.toArray true).wp Tryd.prog Q a w := wp_region_still_lit hm hB h
theorem still_tail {id : Nat} {Q : Exit → Act → World → Prop} {a : Act} {w : World} {l : List Oper} (n : Nat) (hm : Tryd.prog.follows .mixedOrders = true) (hB : Region.lexTailB .any l.toArray n = true)
    (h : wpStill Tryd.prog l.toArray w.drew (fun a' => wpList Tryd.prog l.toArray Q (l.drop n) a' w.drew) (l.take n) a) : (Code.region id l.toArray true).wp Tryd.prog Q a w := wp_region_still_tail n hm hB h
/-- n bytes at the head of a block. -/
def BRow (w : World) (g n : Nat) (f : Nat → Nat) : Prop := ∃ D : Array Value, Blk w g D 5 ∧ n ≤ D.size ∧ D.toList.take n = rowC n f
theorem BRow.lt {w : World} {g n : Nat} {f : Nat → Nat} (h : BRow w g n f) : g < w.heap.size := by obtain ⟨D, h, _⟩ := h; exact h.lt
theorem BRow.later {w w' : World} {g n : Nat} {f : Nat → Nat} (h : BRow w g n f) (hb : Below w.heap.size w w') : BRow w' g n f := by obtain ⟨D, h, r⟩ := h; exact ⟨D, h.below hb h.lt, r⟩
theorem BRow.own {w w' : World} {g n b : Nat} {f : Nat → Nat} (h : BRow w g n f) (hO : Own b w w') (hn : g ≠ b) : BRow w' g n f := by obtain ⟨D, h, r⟩ := h; exact ⟨D, hO.blk h hn, r⟩
theorem BRow.cell {w : World} {g n : Nat} {f : Nat → Nat} (h : BRow w g n f) {i : Nat} (hi : i < n) : w.cell? ⟨g, i, none⟩ = some (.int .u8 (f i : Nat)) := by
  obtain ⟨D, h1, h2, h3⟩ := h
  rw [Blk.cell h1, ← Array.getElem?_toList, ← List.getElem?_take_of_lt hi, h3]; exact rowC_get f hi
theorem BRow.free {w : World} {g n : Nat} {f : Nat → Nat} (h : BRow w g n f) (i : Nat) : w.frozen? ⟨g, i, none⟩ = false := by obtain ⟨D, h1, _⟩ := h; exact Blk.free h1 i
theorem BRow.set {w : World} {g n : Nat} {f : Nat → Nat} (h : BRow w g n f) (i x : Nat) : BRow (w.setCell ⟨g, i, none⟩ (.int .u8 (x : Nat))) g n (upd f i x) := by
  obtain ⟨D, h1, h2, h3⟩ := h
  exact ⟨_, h1.set i _, by rw [Array.size_setIfInBounds]; exact h2, by rw [Array.toList_setIfInBounds, List.take_set, h3, rowC_set]⟩
theorem BRow.bytes {w : World} {g n : Nat} {f : Nat → Nat} (h : BRow w g n f) (hf : ∀ i, i < n → f i < 256) : Bytes w (some ⟨g, 0, none⟩) n f := fun k hk => ⟨hf k hk, g, 0, rfl, by rw [Nat.zero_add]; exact h.cell hk⟩
theorem BRow.of_grow {w : World} {base n : Nat} {v : Value} {f : Nat → Nat} (h : Grow w base v n f) (hn : 0 < n) : ∃ g cap, v = .slice (some ⟨g, 0, none⟩) n cap ∧ base ≤ g ∧ n ≤ cap ∧ cap ≤ maxLen ∧ BRow w g n f := by
  rcases h.2 with ⟨_, h0⟩ | ⟨g, cap, cur, hv, hb, hh, hnc, hm, hsz, hcur⟩
  · omega
  · exact ⟨g, cap, hv, hb, hnc, hm, cur, hh, by omega, by rw [Nat.mul_one] at hcur; exact hcur⟩
/-- Bytes that came back, in new memory. -/
def NewB (w : World) (n : Nat) (f : Nat → Nat) (e : Ending) (w' : World) : Prop := ∃ g cap, e = .returned (.slice (some ⟨g, 0, none⟩) n cap) ∧ w.heap.size ≤ g ∧ n ≤ cap ∧ Bytes w' (some ⟨g, 0, none⟩) n f ∧ Below w.heap.size w w'
end Go.Proofs.YtgiffaeckhhmpaaDoor
namespace Go.Proofs.YtgiffaeckhhmpaaDoor
set_option linter.unusedVariables false
set_option linter.unusedSimpArgs false
open Go.RowKit

/-- No slice among some cells leads into a row's own block. -/
def Away (v : Value) (c : List Value) : Prop := ∀ a l cp, Value.slice (some a) l cp ∈ c → 0 < l → v.ownBlock ≠ some a.block
/-- n parts of the call's own, from a block on. -/
def GS (T tb : Nat) (w : World) (base : Nat) (v : Value) (n : Nat) (S : Nat → Sh) : Prop := ∃ C, w.ownsRow base T 3 v n (rws n C) ∧ ∀ i, i < n → IsSh tb w (C i) (S i) ∧ Away v (C i)
theorem IsSh.len {tb : Nat} {w : World} {C : List Value} {s : Sh} (h : IsSh tb w C s) : C.length = 3 := by obtain ⟨_, _, rfl, _⟩ := h; rfl
theorem IsSh.one {tb : Nat} {w : World} {C : List Value} {s : Sh} (h : IsSh tb w C s) : ∀ u ∈ C, u.oneCell' = true := by
  obtain ⟨_, _, rfl, _⟩ := h
  intro u hu
  simp at hu
  rcases hu with rfl | rfl | rfl <;> rfl
theorem GS.nil (T tb : Nat) (w : World) (base : Nat) (S : Nat → Sh) : GS T tb w base (.slice none 0 0) 0 S := ⟨fun _ => [], World.ownsRow_nil w base _ 3, fun i hi => absurd hi (Nat.not_lt_zero _)⟩
theorem GS.later {T tb : Nat} {w w' : World} {base n : Nat} {v : Value} {S : Nat → Sh} (h : GS T tb w base v n S) (hb : Below w.heap.size w w') : GS T tb w' base v n S := by
  obtain ⟨C, h1, h2⟩ := h
  exact ⟨C, owns_later h1 hb, fun i hi => ⟨(h2 i hi).1.later hb, (h2 i hi).2⟩⟩
theorem GS.congr {T tb : Nat} {w : World} {base n : Nat} {v : Value} {S S' : Nat → Sh} (h : GS T tb w base v n S) (he : ∀ i, i < n → S i = S' i) : GS T tb w base v n S' := by
  obtain ⟨C, h1, h2⟩ := h
  exact ⟨C, h1, fun i hi => by rw [← he i hi]; exact h2 i hi⟩
theorem Bytes.grown {w w' : World} {od : Option Addr} {len : Nat} {f : Nat → Nat} {row : Option Nat} (h : Bytes w od len f) (hg : w.grownBy w' row) (ha : ∀ a, od = some a → 0 < len → row ≠ some a.block) : Bytes w' od len f := fun i hi => by
  obtain ⟨h1, d, off, rfl, hc⟩ := h i hi
  refine ⟨h1, d, off, rfl, ?_⟩
  have hlt : d < w.heap.size := World.block_lt_of_cell? w _ hc
  rw [← hc]; exact World.cell?_of_block (hg.block d hlt (Ne.symm (ha _ rfl (by omega))))
theorem IsSh.grown {tb : Nat} {w w' : World} {C : List Value} {s : Sh} {row : Option Nat} (h : IsSh tb w C s) (hg : w.grownBy w' row) (ha : ∀ a l cp, Value.slice (some a) l cp ∈ C → 0 < l → row ≠ some a.block) : IsSh tb w' C s := by
  obtain ⟨oa, cap, rfl, hB, hr⟩ := h
  exact ⟨oa, cap, rfl, hB.grown hg (fun a e hl => ha a s.len cap (by subst e; simp) hl), hr⟩
theorem IsSh.old {tb : Nat} {w : World} {C : List Value} {s : Sh} (h : IsSh tb w C s) : ∀ a l cp, Value.slice (some a) l cp ∈ C → 0 < l → a.block < w.heap.size := fun a l cp hm hl => by
  obtain ⟨oa, cap, rfl, hB, _⟩ := h
  simp at hm
  obtain ⟨rfl, rfl, rfl⟩ := hm
  obtain ⟨_, b, off, e, hc⟩ := hB 0 hl
  cases e; exact World.block_lt_of_cell? w _ hc
/-- They are parts. -/
theorem GS.shs {T tb : Nat} {w : World} {base n : Nat} {v : Value} {S : Nat → Sh} (h : GS T tb w base v n S) (hb : tb < base ∨ w.heap.size ≤ tb) : ∃ oa cap, v = .slice oa n cap ∧ n ≤ cap ∧ cap ≤ maxLen ∧ Shs tb w oa n S := by
  obtain ⟨C, h1, h2⟩ := h
  obtain ⟨oa, cap, hv, hnc, hm, hbl, hc⟩ := rws_cells h1 fun i hi => (h2 i hi).1.len
  refine ⟨oa, cap, hv, hnc, hm, fun i hi => ?_⟩
  obtain ⟨b, off, e, h0, _⟩ := hc i 0 hi (by decide)
  obtain ⟨g, e2, hg1, hg2⟩ := hbl _ e
  cases e2
  refine ⟨b, 0, C i, by rw [e, h0], by omega, (h2 i hi).1, fun j hj => ?_⟩
  obtain ⟨b', off', e3, h0', h5⟩ := hc i j hi hj
  rw [e] at e3; cases e3
  rw [h0'] at h5; exact h5
/-- append of one part, at the operation. -/
theorem wpList_appGS {T TS : Nat} {z : Value} (hU : Tryd.prog.underlying TS = some (.slice T)) (hI : (Tryd.prog.info? T).map (fun i => (i.zero, i.size, i.bytes)) = some (some z, 3, 32)) (hz3 : z.cells.size = 3)
    {ops : Array Oper} {rest : List Oper} {o : Oper} {a : Act} {Q : Exit → Act → World → Prop} (hgd : o.guard = none) (s x : Operand)
    (ho : o.op = .call { callee := .builtin .append, args := #[s, x], argTypes := #[TS, TS] })
    (tb base : Nat) (v : Value) (n : Nat) (S : Nat → Sh) (c : List Value) (W : World) (hs : a.eval s = v) (hG : GS T tb W base v n S) (hc : IsSh tb W c (S n)) (haw : Away v c)
    (H : Nat) (hH : W.heap.size = H) (hx : a.eval x = .slice (some ⟨H, 0, none⟩) 1 1)
    (hn : n < 1000000) (hbase : base ≤ W.heap.size)
    (h : ∀ v' w', GS T tb w' base v' (n + 1) S → W.grownBy w' v.ownBlock → Below base W w' → W.heap.size < w'.heap.size → wpList Tryd.prog ops Q rest (a.put o.dst v') w') :
    wpList Tryd.prog ops Q (o :: rest) a (W.alloc (.cells c.toArray T)) := by
  subst hH
  obtain ⟨i0, hi, hz0, hz1, hz2⟩ := info_parts hI
  obtain ⟨C, hown, hC⟩ := hG
  have hbA : Below W.heap.size W (W.alloc (.cells c.toArray T)) := (Below.refl _ _).alloc (Nat.le_refl _) _
  refine wpList_append_own_at _ hgd s x TS ho base T i0 _ 3 32 hU hi hz0 hz1 hz2 hz3 (by decide) v n (rws n C) hs (owns_later hown hbA) ⟨W.heap.size, 0, none⟩ 1 1 c hx (by rw [hc.len])
    news_lit hc.one (by unfold maxLen; omega) (by omega) (by simp; omega) ?_
  intro v' w' hown' hg _ hat
  have hne : ∀ q, v.ownBlock = some q → q < W.heap.size := fun q hq => by
    rcases hown.2 with ⟨rfl, _⟩ | ⟨g, cap, cur, rfl, _, hh, _⟩
    · simp [Value.ownBlock] at hq
    · simp [Value.ownBlock] at hq; subst hq; exact lt_of_block hh
  have hg2 : W.grownBy w' v.ownBlock := ⟨hg.os, hg.tape, hg.output, Nat.le_trans (by simp) hg.size, fun k hk hkn => by rw [hg.block k (by simp; omega) hkn]; exact hbA.block k hk⟩
  have haw' : ∀ d : List Value, Away v d → (∀ a l cp, Value.slice (some a) l cp ∈ d → 0 < l → a.block < W.heap.size) → Away v' d := fun d h1 h2 a l cp hm hl => by
    rcases hat with e | e
    · rw [e]; exact h1 a l cp hm hl
    · rw [e]; have := h2 a l cp hm hl; simp; omega
  refine h v' w' ⟨addC C n c, by rw [rws_add]; exact hown', fun i hi => ?_⟩ hg2 (hbA.mono hbase |>.grown hg (by simp; omega) (owns_block hown)) (by have := hg.size; simp at this; omega)
  by_cases e : i = n
  · subst e
    unfold addC; rw [if_pos rfl]
    exact ⟨hc.grown hg2 haw, haw' c haw hc.old⟩
  · unfold addC; rw [if_neg e]
    have h1 := hC i (by omega)
    exact ⟨h1.1.grown hg2 h1.2, haw' _ h1.2 h1.1.old⟩
theorem info_rshare : (Tryd.prog.info? 55).map (fun i => (i.zero, i.size, i.bytes)) = some (some (.agg #[.int .u8 0, .int .u32 0, .slice none 0 0]), 3, 32) := by kernel_rfl
theorem info_rshare3 : (Tryd.prog.info? 55).map (·.size) = some 3 := by kernel_rfl
theorem GS.block {T tb : Nat} {w : World} {base n : Nat} {v : Value} {S : Nat → Sh} (h : GS T tb w base v n S) : ∀ q, v.ownBlock = some q → base ≤ q ∧ q < w.heap.size := by
  obtain ⟨C, h1, _⟩ := h
  intro q hq
  rcases h1.2 with ⟨rfl, _⟩ | ⟨g, cap, cur, rfl, hb, hh, _⟩
  · simp [Value.ownBlock] at hq
  · simp [Value.ownBlock] at hq; subst hq; exact ⟨hb, lt_of_block hh⟩
end Go.Proofs.YtgiffaeckhhmpaaDoor
