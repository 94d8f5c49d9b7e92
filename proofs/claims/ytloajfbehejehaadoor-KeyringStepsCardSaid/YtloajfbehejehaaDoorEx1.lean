/- Bytes out of a key: in plain mathematics, and as the program makes them. -/
import Derived.Test.YtloajfbehejehaaDoorRm1
import Derived.Test.YtloajfbehejehaaDoorApo
namespace Go.Proofs.YtloajfbehejehaaDoor
set_option linter.unusedVariables false
set_option linter.unusedSimpArgs false
open Go.RowKit

/-- How many bytes the sum ahead has; what is summed. -/
def exL (i : Nat) : Nat := if i = 0 then 0 else 32
def exM (l p : Nat) (T I : Nat → Nat) (c : Nat) : Nat → Nat := catF (0 + l + p) (catF (0 + l) (catF 0 (fun _ => 0) T) I) (fun _ => c)
/-- The sums, one by one. -/
def exT (n : Nat) (K : Nat → Nat) (p : Nat) (I : Nat → Nat) : Nat → Nat → Nat
  | 0 => fun _ => 0
  | i + 1 => hmN n K (0 + exL i + p + 1) (exM (exL i) p (exT n K p I i) I (i + 1))
/-- All bytes, one behind the other. -/
def exF (n : Nat) (K : Nat → Nat) (p : Nat) (I : Nat → Nat) : Nat → Nat := fun j => exT n K p I (j / 32 + 1) (j % 32)
theorem exL_pos {i : Nat} (h : 0 < i) : exL i = 32 := if_neg (by omega)
theorem exL_le (i : Nat) : exL i ≤ 32 := by unfold exL; split <;> omega
theorem hmN_lt (n : Nat) (K : Nat → Nat) (m : Nat) (G : Nat → Nat) (j : Nat) : hmN n K m G j < 256 := shaN_lt _ _ _
theorem exT_lt (n : Nat) (K : Nat → Nat) (p : Nat) (I : Nat → Nat) : ∀ i j, exT n K p I i j < 256
  | 0, _ => by show 0 < 256; decide
  | i + 1, j => hmN_lt _ _ _ _ j
theorem exF_lt (n : Nat) (K : Nat → Nat) (p : Nat) (I : Nat → Nat) (j : Nat) : exF n K p I j < 256 := exT_lt _ _ _ _ _ _
theorem exF_step (n : Nat) (K : Nat → Nat) (p : Nat) (I : Nat → Nat) (t : Nat) : ∀ j, j < 32 * t + 32 → catF (32 * t) (exF n K p I) (exT n K p I (t + 1)) j = exF n K p I j :=
  catF_self fun i hi => by
    unfold exF
    rw [show (32 * t + i) / 32 = t by omega, show (32 * t + i) % 32 = i by omega]
theorem hmN_congr {n m : Nat} {K G G' : Nat → Nat} (h : ∀ k, k < m → G k = G' k) : hmN n K m G = hmN n K m G' := by
  unfold hmN hmK
  have e : shaN (64 + m) (catF 64 (xoK (whK n K) 54) G) = shaN (64 + m) (catF 64 (xoK (whK n K) 54) G') := shaN_congr fun k hk => by
    unfold catF
    by_cases e : k < 64
    · rw [if_pos e, if_pos e]
    · rw [if_neg e, if_neg e]; exact h _ (by omega)
  rw [e]
theorem exM_congr {l p c : Nat} {T I I' : Nat → Nat} (h : ∀ i, i < p → I i = I' i) (k : Nat) : exM l p T I c k = exM l p T I' c k := by
  unfold exM catF
  by_cases e1 : k < 0 + l + p
  · rw [if_pos e1, if_pos e1]
    by_cases e2 : k < 0 + l
    · rw [if_pos e2, if_pos e2]
    · rw [if_neg e2, if_neg e2]; exact h _ (by omega)
  · rw [if_neg e1, if_neg e1]
theorem exT_congr {n p : Nat} {K I I' : Nat → Nat} (h : ∀ i, i < p → I i = I' i) : ∀ i, exT n K p I i = exT n K p I' i
  | 0 => rfl
  | i + 1 => by
    show hmN n K _ _ = hmN n K _ _
    rw [exT_congr h i]
    exact hmN_congr fun k _ => exM_congr h k
theorem Bytes.own {w w' : World} {oa : Option Addr} {n b : Nat} {f : Nat → Nat} (h : Bytes w oa n f) (hO : Own b w w') (hn : ∀ a, oa = some a → 0 < n → a.block ≠ b) : Bytes w' oa n f := fun k hk => by
  obtain ⟨h1, c, off, h2, h3⟩ := h k hk
  exact ⟨h1, c, off, h2, hO.cell h3 (show c ≠ b from hn ⟨c, off, none⟩ h2 (by omega))⟩
/-- While the bytes grow. -/
structure ES (w0 : World) (t : Nat) (T : Nat → Nat → Nat) (E : Nat → Nat) (vo : Value) (ol : Option Addr) (cl : Nat) (wr : World) : Prop where
  g : Grow wr w0.heap.size vo (32 * t) E
  b : Bytes wr ol (exL t) (T t)
  c : exL t ≤ cl ∧ (ol = none → exL t = 0)
  n : ∀ a, ol = some a → 0 < exL t → vo.ownBlock ≠ some a.block
  o : Below w0.heap.size w0 wr
theorem ES.later {w0 wr w' : World} {t : Nat} {T : Nat → Nat → Nat} {E : Nat → Nat} {vo : Value} {ol : Option Addr} {cl : Nat} (h : ES w0 t T E vo ol cl wr) (hb : Below wr.heap.size wr w') : ES w0 t T E vo ol cl w' :=
  ⟨h.g.later hb, h.b.later hb, h.c, h.n, h.o.trans (hb.mono h.o.size)⟩
theorem ES.start (w0 : World) (T : Nat → Nat → Nat) (E : Nat → Nat) (wr : World) (hb : Below w0.heap.size w0 wr) : ES w0 0 T E (.slice none 0 0) none 0 wr :=
  ⟨Grow.nil _ _ _, fun k hk => absurd hk (Nat.not_lt_zero _), ⟨Nat.le_refl _, fun _ => rfl⟩, fun a ha => (by cases ha), hb⟩
/-- The next sum lies in g1; the bytes grow by it. -/
theorem ES.next {w0 wr w' : World} {t g1 cl : Nat} {T : Nat → Nat → Nat} {E : Nat → Nat} {vo vo' : Value} {ol : Option Addr} (h : ES w0 t T E vo ol cl wr) (h1 : Bytes wr (some ⟨g1, 0, none⟩) 32 (T (t + 1))) (hn : vo.ownBlock ≠ some g1)
    (hg : wr.grownBy w' vo.ownBlock) (hG : Grow w' w0.heap.size vo' (32 * t + 32) (catF (32 * t) E (T (t + 1)))) (hob : vo'.ownBlock = vo.ownBlock ∨ vo'.ownBlock = some wr.heap.size) (hE : ∀ j, j < 32 * t + 32 → catF (32 * t) E (T (t + 1)) j = E j) : ES w0 (t + 1) T E vo' (some ⟨g1, 0, none⟩) 32 w' := by
  have hO := own_of_grown hg
  have hl : g1 < wr.heap.size := h1.lt _ rfl (by decide)
  refine ⟨hG.congr hE, ?_, ⟨exL_le _, fun e => by cases e⟩, fun a ha _ => ?_, h.o.trans (hO.below (own_ge h.g h.o.size) h.o.size)⟩
  · rw [exL_pos (by omega)]
    exact h1.own hO fun a ha _ => by cases ha; exact ne_own hl hn
  · cases ha
    rcases hob with e | e
    · rw [e]; exact hn
    · rw [e]; intro e2; have e3 := Option.some.inj e2; simp only at e3; omega
/-- A sum with a key, begun in new memory. -/
structure EK (w0 : World) (k gi go : Nat) (W : Nat → Nat) (m : Nat) (G : Nat → Nat) (wr : World) : Prop where
  h : KH wr k gi go W m G
  o : Below w0.heap.size w0 wr
  v : GV wr
  b : w0.heap.size < gi
theorem EK.wrote {w0 wr w' : World} {k gi go m m' : Nat} {W G G' : Nat → Nat} (h : EK w0 k gi go W m G wr) (hK : KH w' k gi go W m' G') (hO : Own gi wr w') : EK w0 k gi go W m' G' w' :=
  ⟨hK, h.o.trans (hO.below (by have := h.b; omega) h.o.size), h.v.own hO h.h.hi.1.1 h.h.hi.1.2, h.b⟩
theorem EK.later {w0 wr w' : World} {k gi go m : Nat} {W G : Nat → Nat} (h : EK w0 k gi go W m G wr) (hb : Below wr.heap.size wr w') : EK w0 k gi go W m G w' :=
  ⟨h.h.later hb, h.o.trans (hb.mono h.o.size), h.v.later hb, h.b⟩
set_option maxRecDepth 100000 in
set_option maxHeartbeats 1000000 in
theorem expand_bad (v0 v1 : Value) (z : Int) (w : World) (h1 : -9223372036854775808 ≤ z) (h2 : z ≤ 9223372036854775807) (hz : z < 0 ∨ 8160 < z) :
    Calls Tryd.prog 33 #[v0, v1, .int .i64 z] w fun e w' => e = .returned (.tuple #[.slice none 0 0, .iface 64 (.int .i64 1)]) ∧ w' = w := by
  go_enter Tryd.func33, Tryd.ntmps33
  have hcs : z < 0 ∨ (¬ z < 0 ∧ 8160 < z) := by omega
  rcases hcs with h3 | ⟨h3, h4⟩
  · go_wp2_with fail
    go_ret2
    exact ⟨rfl, rfl⟩
  · go_wp2_with fail
    go_ret2
    exact ⟨rfl, rfl⟩
set_option maxRecDepth 100000 in
set_option maxHeartbeats 8000000 in
theorem expand_any (oa oi : Option Addr) (n cn p ci : Nat) (K I : Nat → Nat) (z : Nat) (w : World) (hb : Bytes w oa n K) (hnc : n ≤ cn) (hno : oa = none → n = 0) (hn : n < 800000000000) (hb2 : Bytes w oi p I) (hpc : p ≤ ci) (hp : p < 700000000000) (hz : z ≤ 8160) (hg : GV w) :
    Calls Tryd.prog 33 #[.slice oa n cn, .slice oi p ci, .int .i64 (z : Int)] w fun e w' => ∃ o, e = .returned (.tuple #[.slice o z z, .nilIface]) ∧ Bytes w' o z (exF n K p I) ∧ (o = none → z = 0) ∧ Below w.heap.size w w' := by
  have hz32 := zero32_run
  have HKB : Hid (∀ w', Below w.heap.size w w' → Bytes w' oa n K) := Lib.hid fun w' h => hb.later h
  have HIB : Hid (∀ w', Below w.heap.size w w' → Bytes w' oi p I) := Lib.hid fun w' h => hb2.later h
  have HIL : Hid (∀ a, oi = some a → 0 < p → a.block < w.heap.size) := Lib.hid hb2.lt
  have HNC : Hid (n ≤ cn ∧ p ≤ ci ∧ n < 800000000000 ∧ p < 700000000000 ∧ z ≤ 8160) := Lib.hid ⟨hnc, hpc, hn, hp, hz⟩
  have HNO := Lib.hid hno
  have HG := Lib.hid hg
  obtain ⟨W, hW⟩ : ∃ D, whK n K = D := ⟨_, rfl⟩
  obtain ⟨T, hT⟩ : ∃ D, exT n K p I = D := ⟨_, rfl⟩
  obtain ⟨E, hE⟩ : ∃ D, exF n K p I = D := ⟨_, rfl⟩
  have HWW := Lib.hid hW
  have HTT : Hid (∀ t, hmK W (0 + exL t + p + 1) (exM (exL t) p (T t) I (t + 1)) = T (t + 1)) := Lib.hid fun t => by rw [← hT, ← hW]; rfl
  have HTL : Hid (∀ t j, T t j < 256) := Lib.hid fun t j => by rw [← hT]; exact exT_lt _ _ _ _ _ _
  have HEL : Hid (∀ j, E j < 256) := Lib.hid fun j => by rw [← hE]; exact exF_lt _ _ _ _ _
  have HES : Hid (∀ t j, j < 32 * t + 32 → catF (32 * t) E (T (t + 1)) j = E j) := Lib.hid fun t => by rw [← hE, ← hT]; exact exF_step n K p I t
  have z0 : ¬ (z : Int) < 0 := by omega
  have z1 : ¬ (8160 : Int) < (z : Int) := by omega
  have H0 := Lib.hid (ES.start w T E w (Below.refl _ _))
  rw [hE]
  clear hb hnc hno hn hb2 hpc hp hz hg hW hT hE
  go_enter Tryd.func33, Tryd.ntmps33
  go_wp2_with fail
  go_loopw [8, 9, 10] (fun x y v wr => ∃ (t c : Nat) (vo : Value) (ol : Option Addr) (cl : Nat), t ≤ 255 ∧ c = (t + 1) % 256 ∧ v = .int .u8 (c : Int) ∧ vo = x ∧ y = .slice ol (exL t) cl ∧ ES w t T E vo ol cl wr) (fun x _ _ _ => 8192 - lenV x)
  case atStart => exact ⟨0, 1, _, none, 0, by decide, rfl, rfl, rfl, rfl, H0.out⟩
  case round =>
    clear H0
    obtain ⟨t, c, vo, ol, cl, ht, hc, rfl, rfl, rfl, hX⟩ := hrel
    obtain ⟨oo, co, hvo, hBo, hco, hno⟩ := hX.g.bytesC (fun i _ => HEL.out i)
    subst hvo
    have HX := Lib.hid hX
    have HBO := Lib.hid hBo
    have HCO : Hid (32 * t ≤ co ∧ (oo = none → 32 * t = 0)) := Lib.hid ⟨hco, hno⟩
    obtain ⟨q, hq⟩ : ∃ q, 32 * t = q := ⟨_, rfl⟩
    have HQ := Lib.hid hq
    clear hX hBo hco hno
    rw [hq] at HX HBO HCO ⊢
    by_cases hlt : q < z
    · as_aux_lemma =>
      have q1 : (q : Int) < (z : Int) := by omega
      have HT : Hid (t < 255 ∧ c = t + 1 ∧ 32 * t < z) := Lib.hid (by have := HNC.out; omega)
      obtain ⟨c2, hc2⟩ : ∃ x, (t + 2) % 256 = x := ⟨_, rfl⟩
      have w1 : IntKind.u8.wrap ((c : Int) + 1) = (c2 : Int) := by have := HT.out; simp [IntKind.wrap, IntKind.bits, IntKind.signed]; omega
      have w2 : ((c : Int) + 1) % 256 = (c2 : Int) := by have := HT.out; omega
      have HC2 := Lib.hid hc2
      clear hlt ht hc hc2 hq
      go_wp2_with fail
      clear q1
      refine (hmnew_any oa n cn K _ (HKB.out _ HX.out.o) HNC.out.1 HNC.out.2.2.1 HNO.out (HG.out.later HX.out.o)).mono ?_
      rintro e w1 ⟨k, gi, go, rfl, hK, hb1, hk1, hk2, hk3⟩
      have H1 : Hid (EK wr k gi go W 0 (fun _ => 0) w1) := Lib.hid ⟨HWW.out ▸ hK _, hb1, HG.out.later (HX.out.o.trans (hb1.mono HX.out.o.size)), hk2⟩
      clear hK hb1 hk1 hk2 hk3
      go_wp2_with fail
      refine (kwrite_any k gi go 0 (exL t) cl ol W _ (T t) _ H1.out.h (HX.out.b.later H1.out.o) HX.out.c.1 (fun a ha hl => by have := HX.out.b.lt a ha hl; have := H1.out.b; omega) (by have := exL_le t; omega) H1.out.v).mono ?_
      rintro e w2 ⟨rfl, hK, hO⟩
      have H2 := Lib.hid (H1.out.wrote hK hO)
      clear hK hO H1
      go_wp2_with fail
      refine (kwrite_any k gi go (0 + exL t) p ci oi W _ I _ H2.out.h (HIB.out _ (HX.out.o.trans (H2.out.o.mono HX.out.o.size))) HNC.out.2.1 (fun a ha hl => by have := HIL.out a ha hl; have := H2.out.b; have := HX.out.o.size; omega) (by have := exL_le t; have := HNC.out; omega) H2.out.v).mono ?_
      rintro e w3 ⟨rfl, hK, hO⟩
      have H3 := Lib.hid (H2.out.wrote hK hO)
      clear hK hO H2
      go_wp2_with fail
      have H4 := Lib.hid (H3.out.later ((Below.refl _ _).alloc (Nat.le_refl _) (.cells #[.int .u8 (c : Nat)] 5)))
      refine (kwrite_any k gi go (0 + exL t + p) 1 1 (some ⟨w3.heap.size, 0, none⟩) W _ (fun _ => c) _ H4.out.h (one_byte (by have := HT.out; omega)) (Nat.le_refl _) (fun a ha hl => by cases ha; have := H3.out.h.hi.lt; show w3.heap.size ≠ gi; omega) (by have := exL_le t; have := HNC.out; omega) H4.out.v).mono ?_
      rintro e w5 ⟨rfl, hK, hO⟩
      have H5 := Lib.hid (H4.out.wrote hK hO)
      clear hK hO H4 H3
      go_wp2_with fail
      refine (ksum_any k gi go _ W _ _ H5.out.h (by have := exL_le t; have := HNC.out; omega) H5.out.v).mono ?_
      rintro e w6 ⟨rfl, hb6⟩
      have hD : hmK W (0 + exL t + p + 1) (catF (0 + exL t + p) (catF (0 + exL t) (catF 0 (fun _ => 0) (T t)) I) (fun _ => c)) = T (t + 1) := by rw [HT.out.2.1]; exact HTT.out t
      rw [hD]
      obtain ⟨CD, hCD⟩ : ∃ C, (rowC 32 (T (t + 1))).toArray = C := ⟨_, rfl⟩
      have HI : Hid ((Tryd.prog.info? 22).map (·.size) = some CD.size) := Lib.hid (hCD ▸ info27 _)
      have HI1 : Hid (CD.all (·.oneCell') = true) := Lib.hid (hCD ▸ one32 _)
      obtain ⟨g1, hg1⟩ : ∃ g, w6.heap.size = g := ⟨_, rfl⟩
      obtain ⟨wc, hwc⟩ : ∃ q, w6.alloc (.cells zero32 22) = q := ⟨_, rfl⟩
      obtain ⟨w8, hw8⟩ : ∃ q, wc.setCells g1 0 CD.toList = q := ⟨_, rfl⟩
      have hl := lay32 w6 (T (t + 1)) hCD
      rw [hg1, hwc, hw8] at hl
      have HTH := Lib.hid hl.2.2
      have H8 : Hid (ES w t T E (.slice oo q co) ol cl w8 ∧ Bytes w8 (some ⟨g1, 0, none⟩) 32 (T (t + 1)) ∧ (Value.slice oo q co).ownBlock ≠ some g1) := Lib.hid (by
        have h6 := H5.out.o.trans (hb6.mono H5.out.o.size)
        have h8 := h6.trans (hl.2.1.mono (by rw [← hg1]; exact h6.size))
        refine ⟨HX.out.later h8, RB.bytes hl.1 fun i _ => HTL.out _ i, fun e => ?_⟩
        have h9 := (HX.out.g.lt g1 e).2
        have := h6.size
        omega)
      rw [hCD]
      clear hl hb6 hD hCD H5 HX HBO
      go_wp2_with (first
        | (refine wpList_store_mid rfl 22 (.tmp 12) (.tmp 39) rfl g1 0 CD rfl rfl HTH.out HI.out HI1.out ?_; rw [hw8])
        | (refine wpList_appO rfl (.tmp 41) (.tmp 42) rfl w.heap.size (.slice oo q co) (32 * t) 32 32 (some ⟨g1, 0, none⟩) E (T (t + 1)) w8 rfl H8.out.1.g rfl (fun h => by cases h) H8.out.2.1 (by have := HT.out; omega) H8.out.1.o.size ?_; intro v9 w9 hG9 hg9 hob9; have H9 := Lib.hid (H8.out.1.next H8.out.2.1 H8.out.2.2 hg9 hG9 hob9 (HES.out t)); obtain ⟨o9, c9, hv9, _, _⟩ := H9.out.g.bytesC (fun i _ => HEL.out i); subst hv9; clear hG9 hg9 hob9 H8))
      clear hw8 hwc hg1 HTH HI HI1
      go_roundw
      case rel => exact ⟨t + 1, c2, _, some ⟨g1, 0, none⟩, 32, by have := HT.out; omega, HC2.out.symm, rfl, rfl, by rw [exL_pos (by omega)], H9.out⟩
      case measure => have := HT.out; have := HNC.out; have := HQ.out; simp [lenV]; omega
    · have q1 : ¬ (q : Int) < (z : Int) := by omega
      have z2 : (0 : Int) ≤ (z : Int) := by omega
      have z3 : (z : Int) ≤ (co : Int) := by have := HCO.out; omega
      clear hc ht
      go_wp2_with fail
      go_ret2
      exact ⟨oo, rfl, HBO.out.mono (by have := HCO.out; omega) , fun e => by have h := HCO.out.2 e; have := HQ.out; omega, HX.out.o⟩
end Go.Proofs.YtloajfbehejehaaDoor
