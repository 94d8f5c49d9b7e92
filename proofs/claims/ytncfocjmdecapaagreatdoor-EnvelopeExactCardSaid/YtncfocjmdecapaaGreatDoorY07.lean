/- Part of the proof: what stands here serves the walks of the functions that the statement calls. -/
import Derived.Laws.IdiomStrings
import Derived.Laws.IdiomCopy
import Derived.LaidEql
import Derived.Stop.Asserts
import Derived.Lib.BufferRead
import Derived.Test.YtncfocjmdecapaaGreatDoorY06
namespace Go.Proofs.YtncfocjmdecapaaGreatDoor
set_option linter.unusedVariables false
set_option linter.unusedSimpArgs false
open Go.RowKit
set_option maxRecDepth 100000
set_option maxHeartbeats 8000000
def exL (i : Nat) : Nat := if i = 0 then 0 else 32
def exM (l p : Nat) (T I : Nat → Nat) (c : Nat) : Nat → Nat := catF (0 + l + p) (catF (0 + l) (catF 0 (fun _ => 0) T) I) (fun _ => c)
def exT (n : Nat) (K : Nat → Nat) (p : Nat) (I : Nat → Nat) : Nat → Nat → Nat
 | 0 => fun _ => 0
 | i + 1 => hmN n K (0 + exL i + p + 1) (exM (exL i) p (exT n K p I i) I (i + 1))
def exF (n : Nat) (K : Nat → Nat) (p : Nat) (I : Nat → Nat) : Nat → Nat := fun j => exT n K p I (j / 32 + 1) (j % 32)
theorem exL_pos {i : Nat} (h : 0 < i) : exL i = 32 := if_neg (by omega)
theorem exL_le (i : Nat) : exL i ≤ 32 := by unfold exL; split <;> omega
theorem hmN_lt (n : Nat) (K : Nat → Nat) (m : Nat) (G : Nat → Nat) (j : Nat) : hmN n K m G j < 256 := shaN_lt _ _ _
theorem exT_lt (n : Nat) (K : Nat → Nat) (p : Nat) (I : Nat → Nat) : ∀ i j, exT n K p I i j < 256
 | 0, _ => by show 0 < 256; decide
 | i + 1, j => hmN_lt _ _ _ _ j
theorem exF_lt (n : Nat) (K : Nat → Nat) (p : Nat) (I : Nat → Nat) (j : Nat) : exF n K p I j < 256 := exT_lt _ _ _ _ _ _
theorem exF_step (n : Nat) (K : Nat → Nat) (p : Nat) (I : Nat → Nat) (t : Nat) : ∀ j, j < 32 * t + 32 → catF (32 * t) (exF n K p I) (exT n K p I (t + 1)) j = exF n K p I j :=
 catF_self fun i hi => by
  unfold exF
  rw [show (32 * t + i) / 32 = t by omega, show (32 * t + i) % 32 = i by omega]
theorem Bytes.own {w w' : World} {oa : Option Addr} {n b : Nat} {f : Nat → Nat} (h : Bytes w oa n f) (hO : Own b w w') (hn : ∀ a, oa = some a → 0 < n → a.block ≠ b) : Bytes w' oa n f := fun k hk => by
 obtain ⟨h1, c, off, h2, h3⟩ := h k hk
 exact ⟨h1, c, off, h2, hO.cell h3 (show c ≠ b from hn ⟨c, off, none⟩ h2 (by omega))⟩
structure ES (w0 : World) (t : Nat) (T : Nat → Nat → Nat) (E : Nat → Nat) (vo : Value) (ol : Option Addr) (cl : Nat) (wr : World) : Prop where
 g : Grow wr w0.heap.size vo (32 * t) E
 b : Bytes wr ol (exL t) (T t)
 c : exL t ≤ cl ∧ (ol = none → exL t = 0)
 n : ∀ a, ol = some a → 0 < exL t → vo.ownBlock ≠ some a.block
 o : Below w0.heap.size w0 wr
theorem ES.later {w0 wr w' : World} {t : Nat} {T : Nat → Nat → Nat} {E : Nat → Nat} {vo : Value} {ol : Option Addr} {cl : Nat} (h : ES w0 t T E vo ol cl wr) (hb : Below wr.heap.size wr w') : ES w0 t T E vo ol cl w' :=
 ⟨h.g.later hb, h.b.later hb, h.c, h.n, h.o.trans (hb.mono h.o.size)⟩
theorem ES.start (w0 : World) (T : Nat → Nat → Nat) (E : Nat → Nat) (wr : World) (hb : Below w0.heap.size w0 wr) : ES w0 0 T E (.slice none 0 0) none 0 wr :=
 ⟨Grow.nil _ _ _, fun k hk => absurd hk (Nat.not_lt_zero _), ⟨Nat.le_refl _, fun _ => rfl⟩, fun a ha => (by cases ha), hb⟩
theorem ES.next {w0 wr w' : World} {t g1 cl : Nat} {T : Nat → Nat → Nat} {E : Nat → Nat} {vo vo' : Value} {ol : Option Addr} (h : ES w0 t T E vo ol cl wr) (h1 : Bytes wr (some ⟨g1, 0, none⟩) 32 (T (t + 1))) (hn : vo.ownBlock ≠ some g1)
  (hg : wr.grownBy w' vo.ownBlock) (hG : Grow w' w0.heap.size vo' (32 * t + 32) (catF (32 * t) E (T (t + 1)))) (hob : vo'.ownBlock = vo.ownBlock ∨ vo'.ownBlock = some wr.heap.size) (hE : ∀ j, j < 32 * t + 32 → catF (32 * t) E (T (t + 1)) j = E j) : ES w0 (t + 1) T E vo' (some ⟨g1, 0, none⟩) 32 w' := by
 have hO := own_of_grown hg
 have hl : g1 < wr.heap.size := h1.lt _ rfl (by decide)
 refine ⟨hG.congr hE, ?_, ⟨exL_le _, fun e => by cases e⟩, fun a ha _ => ?_, h.o.trans (hO.below (own_ge h.g h.o.size) h.o.size)⟩
 ·rw [exL_pos (by omega)]
  exact h1.own hO fun a ha _ => by cases ha; exact ne_own hl hn
 ·cases ha
  rcases hob with e | e
  ·rw [e]; exact hn
  ·rw [e]; intro e2; have e3 := Option.some.inj e2; simp only at e3; omega
structure EK (w0 : World) (k gi go : Nat) (W : Nat → Nat) (m : Nat) (G : Nat → Nat) (wr : World) : Prop where
 h : KH wr k gi go W m G
 o : Below w0.heap.size w0 wr
 v : GV wr
 b : w0.heap.size < gi
theorem EK.wrote {w0 wr w' : World} {k gi go m m' : Nat} {W G G' : Nat → Nat} (h : EK w0 k gi go W m G wr) (hK : KH w' k gi go W m' G') (hO : Own gi wr w') : EK w0 k gi go W m' G' w' :=
 ⟨hK, h.o.trans (hO.below (by have := h.b; omega) h.o.size), h.v.own hO h.h.hi.1.1 h.h.hi.1.2, h.b⟩
theorem EK.later {w0 wr w' : World} {k gi go m : Nat} {W G : Nat → Nat} (h : EK w0 k gi go W m G wr) (hb : Below wr.heap.size wr w') : EK w0 k gi go W m G w' :=
 ⟨h.h.later hb, h.o.trans (hb.mono h.o.size), h.v.later hb, h.b⟩
theorem expand_any (oa oi : Option Addr) (n cn p ci : Nat) (K I : Nat → Nat) (z : Nat) (w : World) (hb : Bytes w oa n K) (hnc : n ≤ cn) (hno : oa = none → n = 0) (hn : n < 800000000000) (hb2 : Bytes w oi p I) (hpc : p ≤ ci) (hp : p < 700000000000) (hz : z ≤ 8160) (hg : GV w) :
  Calls Tryz.prog 40 #[.slice oa n cn, .slice oi p ci, .int .i64 (z : Int)] w fun e w' => ∃ o, e = .returned (.tuple #[.slice o z z, .nilIface]) ∧ Bytes w' o z (exF n K p I) ∧ (o = none → z = 0) ∧ Below w.heap.size w w' := by
 have hz32 := zero32_run
 have HKB : Hid (∀ w', Below w.heap.size w w' → Bytes w' oa n K) := zh fun w' h => hb.later h
 have HIB : Hid (∀ w', Below w.heap.size w w' → Bytes w' oi p I) := zh fun w' h => hb2.later h
 have HIL : Hid (∀ a, oi = some a → 0 < p → a.block < w.heap.size) := zh hb2.lt
 have HNC : Hid (n ≤ cn ∧ p ≤ ci ∧ n < 800000000000 ∧ p < 700000000000 ∧ z ≤ 8160) := zh ⟨hnc, hpc, hn, hp, hz⟩
 have HNO := zh hno
 have HG := zh hg
 obtain ⟨W, hW⟩ := zX (whK n K)
 obtain ⟨T, hT⟩ := zX (exT n K p I)
 obtain ⟨E, hE⟩ := zX (exF n K p I)
 have HWW := zh hW
 have HTT : Hid (∀ t, hmK W (0 + exL t + p + 1) (exM (exL t) p (T t) I (t + 1)) = T (t + 1)) := zh fun t => by rw [← hT, ← hW]; rfl
 have HTL : Hid (∀ t j, T t j < 256) := zh fun t j => by rw [← hT]; exact exT_lt _ _ _ _ _ _
 have HEL : Hid (∀ j, E j < 256) := zh fun j => by rw [← hE]; exact exF_lt _ _ _ _ _
 have HES : Hid (∀ t j, j < 32 * t + 32 → catF (32 * t) E (T (t + 1)) j = E j) := zh fun t => by rw [← hE, ← hT]; exact exF_step n K p I t
 have z0 : ¬ (z : Int) < 0 := by omega
 have z1 : ¬ (8160 : Int) < (z : Int) := by omega
 have H0 := zh (ES.start w T E w (Below.refl _ _))
 rw [hE]
 clear hb hnc hno hn hb2 hpc hp hz hg hW hT hE
 go_enter Tryz.func40, Tryz.ntmps40
 go_wp2_with fail
 go_loopw [8, 9, 10] (fun x y v wr => ∃ (t c : Nat) (vo : Value) (ol : Option Addr) (cl : Nat), t ≤ 255 ∧ c = (t + 1) % 256 ∧ v = .int .u8 (c : Int) ∧ vo = x ∧ y = .slice ol (exL t) cl ∧ ES w t T E vo ol cl wr) (fun x _ _ _ => 8192 - lenV x)
 case atStart => exact ⟨0, 1, _, none, 0, by decide, rfl, rfl, rfl, rfl, H0.out⟩
 case round =>
  clear H0
  obtain ⟨t, c, vo, ol, cl, ht, hc, rfl, rfl, rfl, hX⟩ := hrel
  obtain ⟨oo, co, hvo, hBo, hco, hno⟩ := hX.g.bytesC (fun i _ => HEL.out i)
  subst hvo
  have HX := zh hX
  have HBO := zh hBo
  have HCO : Hid (32 * t ≤ co ∧ (oo = none → 32 * t = 0)) := zh ⟨hco, hno⟩
  obtain ⟨q, hq⟩ := zX (32 * t)
  have HQ := zh hq
  clear hX hBo hco hno
  rw [hq] at HX HBO HCO ⊢
  by_cases hlt : q < z
  ·as_aux_lemma =>
   have q1 : (q : Int) < (z : Int) := by omega
   have HT : Hid (t < 255 ∧ c = t + 1 ∧ 32 * t < z) := zh (by have := HNC.out; omega)
   obtain ⟨c2, hc2⟩ := zX ((t + 2) % 256)
   have w1 : IntKind.u8.wrap ((c : Int) + 1) = (c2 : Int) := by have := HT.out; simp [IntKind.wrap, IntKind.bits, IntKind.signed]; omega
   have w2 : ((c : Int) + 1) % 256 = (c2 : Int) := by have := HT.out; omega
   have HC2 := zh hc2
   clear hlt ht hc hc2 hq
   go_wp2_with fail
   clear q1
   refine (hmnew_any oa n cn K _ (HKB.out _ HX.out.o) HNC.out.1 HNC.out.2.2.1 HNO.out (HG.out.later HX.out.o)).mono ?_
   rintro e w1 ⟨k, gi, go, rfl, hK, hb1, hk1, hk2, hk3⟩
   have H1 : Hid (EK wr k gi go W 0 (fun _ => 0) w1) := zh ⟨HWW.out ▸ hK _, hb1, HG.out.later (HX.out.o.trans (hb1.mono HX.out.o.size)), hk2⟩
   clear hK hb1 hk1 hk2 hk3
   go_wp2_with fail
   refine (kwrite_any k gi go 0 (exL t) cl ol W _ (T t) _ H1.out.h (HX.out.b.later H1.out.o) HX.out.c.1 (fun a ha hl => by have := HX.out.b.lt a ha hl; have := H1.out.b; omega) (by have := exL_le t; omega) H1.out.v).mono ?_
   rintro e w2 ⟨rfl, hK, hO⟩
   have H2 := zh (H1.out.wrote hK hO)
   clear hK hO H1
   go_wp2_with fail
   refine (kwrite_any k gi go (0 + exL t) p ci oi W _ I _ H2.out.h (HIB.out _ (HX.out.o.trans (H2.out.o.mono HX.out.o.size))) HNC.out.2.1 (fun a ha hl => by have := HIL.out a ha hl; have := H2.out.b; have := HX.out.o.size; omega) (by have := exL_le t; have := HNC.out; omega) H2.out.v).mono ?_
   rintro e w3 ⟨rfl, hK, hO⟩
   have H3 := zh (H2.out.wrote hK hO)
   clear hK hO H2
   go_wp2_with fail
   have H4 := zh (H3.out.later ((Below.refl _ _).alloc (Nat.le_refl _) (.cells #[.int .u8 (c : Nat)] 5)))
   refine (kwrite_any k gi go (0 + exL t + p) 1 1 (some ⟨w3.heap.size, 0, none⟩) W _ (fun _ => c) _ H4.out.h (one_byte (by have := HT.out; omega)) (Nat.le_refl _) (fun a ha hl => by cases ha; have := H3.out.h.hi.lt; show w3.heap.size ≠ gi; omega) (by have := exL_le t; have := HNC.out; omega) H4.out.v).mono ?_
   rintro e w5 ⟨rfl, hK, hO⟩
   have H5 := zh (H4.out.wrote hK hO)
   clear hK hO H4 H3
   go_wp2_with fail
   refine (ksum_any k gi go _ W _ _ H5.out.h (by have := exL_le t; have := HNC.out; omega) H5.out.v).mono ?_
   rintro e w6 ⟨rfl, hb6⟩
   have hD : hmK W (0 + exL t + p + 1) (catF (0 + exL t + p) (catF (0 + exL t) (catF 0 (fun _ => 0) (T t)) I) (fun _ => c)) = T (t + 1) := by rw [HT.out.2.1]; exact HTT.out t
   rw [hD]
   obtain ⟨CD, hCD⟩ := zX ((rowC 32 (T (t + 1))).toArray)
   have HI : Hid ((Tryz.prog.info? 22).map (·.size) = some CD.size) := zh (hCD ▸ info27 _)
   have HI1 : Hid (CD.all (·.oneCell') = true) := zh (hCD ▸ one32 _)
   obtain ⟨g1, hg1⟩ := zX w6.heap.size
   obtain ⟨wc, hwc⟩ := zX (w6.alloc (.cells zero32 22))
   obtain ⟨w8, hw8⟩ := zX (wc.setCells g1 0 CD.toList)
   have hl := lay32 w6 (T (t + 1)) hCD
   rw [hg1, hwc, hw8] at hl
   have HTH := zh hl.2.2
   have H8 : Hid (ES w t T E (.slice oo q co) ol cl w8 ∧ Bytes w8 (some ⟨g1, 0, none⟩) 32 (T (t + 1)) ∧ (Value.slice oo q co).ownBlock ≠ some g1) := zh (by
    have h6 := H5.out.o.trans (hb6.mono H5.out.o.size)
    have h8 := h6.trans (hl.2.1.mono (by rw [← hg1]; exact h6.size))
    refine ⟨HX.out.later h8, RB.bytes hl.1 fun i _ => HTL.out _ i, fun e => ?_⟩
    have h9 := (HX.out.g.lt g1 e).2
    have := h6.size
    omega)
   rw [hCD]
   clear hl hb6 hD hCD H5 HX HBO
   go_wp2_with (first
    | (refine wpList_store_mid rfl 22 (.tmp 12) (.tmp 39) rfl g1 0 CD rfl rfl HTH.out HI.out HI1.out ?_; rw [hw8])
    | (refine wpList_appO rfl (.tmp 41) (.tmp 42) rfl w.heap.size (.slice oo q co) (32 * t) 32 32 (some ⟨g1, 0, none⟩) E (T (t + 1)) w8 rfl H8.out.1.g rfl (fun h => by cases h) H8.out.2.1 (by have := HT.out; omega) H8.out.1.o.size ?_; intro v9 w9 hG9 hg9 hob9; have H9 := zh (H8.out.1.next H8.out.2.1 H8.out.2.2 hg9 hG9 hob9 (HES.out t)); obtain ⟨o9, c9, hv9, _, _⟩ := H9.out.g.bytesC (fun i _ => HEL.out i); subst hv9; clear hG9 hg9 hob9 H8))
   clear hw8 hwc hg1 HTH HI HI1
   go_roundw
   case rel => exact ⟨t + 1, c2, _, some ⟨g1, 0, none⟩, 32, by have := HT.out; omega, HC2.out.symm, rfl, rfl, by rw [exL_pos (by omega)], H9.out⟩
   case measure => have := HT.out; have := HNC.out; have := HQ.out; simp [lenV]; omega
  ·have q1 : ¬ (q : Int) < (z : Int) := by omega
   have z2 : (0 : Int) ≤ (z : Int) := by omega
   have z3 : (z : Int) ≤ (co : Int) := by have := HCO.out; omega
   clear hc ht
   go_wp2_with fail
   go_ret2
   exact ⟨oo, rfl, HBO.out.mono (by have := HCO.out; omega) , fun e => by have h := HCO.out.2 e; have := HQ.out; omega, HX.out.o⟩
set_option maxRecDepth 512
set_option maxHeartbeats 200000
def byteF (s : ByteArray) : Nat → Nat := fun j => (s.data.toList.getD j 0).toNat
theorem byteF_lt (s : ByteArray) (j : Nat) : byteF s j < 256 := UInt8.toNat_lt _
structure SB (w : World) (g n cap : Nat) (f : Nat → Nat) : Prop where
 c : ∀ j, j < n → w.cell? ⟨g, j, none⟩ = some (.int .u8 (f j : Nat))
 r : w.there g n (cap - n)
 l : g < w.heap.size
 b : ∀ j, j < n → f j < 256
 le : n ≤ cap
theorem SB.bytes {w : World} {g n cap : Nat} {f : Nat → Nat} (h : SB w g n cap f) : Bytes w (some ⟨g, 0, none⟩) n f := fun k hk => ⟨h.b k hk, g, 0, rfl, by rw [Nat.zero_add]; exact h.c k hk⟩
theorem SB.later {w w' : World} {g n cap : Nat} {f : Nat → Nat} (h : SB w g n cap f) (hb : Below w.heap.size w w') : SB w' g n cap f := by
 have e : w'.heap[g]? = w.heap[g]? := hb.block g h.l
 refine ⟨fun j hj => by rw [World.cell?_of_block (a := ⟨g, j, none⟩) e]; exact h.c j hj, fun j hj => ?_, Nat.lt_of_lt_of_le h.l hb.size, h.b, h.le⟩
 rw [World.cell?_of_block (a := ⟨g, n + j, none⟩) e, World.frozen?_of_block (a := ⟨g, n + j, none⟩) e]; exact h.r j hj
theorem conv_sb (s : ByteArray) (w : World) (hs : s.size ≤ maxLen) : ∃ cap w', (convert 9 24 (.string s)).run Tryz.prog w = .ok (.slice (some ⟨w.heap.size, 0, none⟩) s.size cap) w' ∧ cap ≤ maxLen ∧ SB w' w.heap.size s.size cap (byteF s) ∧ Below w.heap.size w w' := by
 have hr := run_bytes_of_string (P := Tryz.prog) w 9 24 5 s Tryz.underlying9 Tryz.underlying24 Tryz.underlying5
 obtain ⟨cap, hcap⟩ := zX (grownCap w s.size 0 5)
 have hge : s.size ≤ cap := hcap ▸ grownCap_ge w s.size 0 _
 have hle : cap ≤ maxLen := hcap ▸ grownCap_le_maxLen w s.size 0 _ hs
 rw [hcap] at hr
 obtain ⟨C, hC⟩ := zX (bytesRow s cap)
 have hsz : C.size = cap := by
  rw [← hC]; unfold bytesRow
  rw [Array.size_append, Array.size_map, Array.size_replicate]
  show s.size + (cap - s.size) = cap
  omega
 rw [hC] at hr
 have hblk : (w.drew.alloc (.cells C 5 (C.size, C.size + 1))).heap[w.heap.size]? = some (.cells C 5 (C.size, C.size + 1)) := by
  show (w.heap.push _)[w.heap.size]? = _
  simp
 refine ⟨cap, _, hr, hle, ⟨fun j hj => ?_, fun j hj => ?_, by show w.heap.size < (w.heap.push _).size; simp, fun j _ => byteF_lt s j, hge⟩, (Below.refl _ w).drew.alloc (Nat.le_refl _) _⟩
 ·have h1 : (w.drew.alloc (.cells C 5 (C.size, C.size + 1))).cell? ⟨w.heap.size, j, none⟩ = C[j]? := by simp only [World.cell?, hblk, Option.isSome_none, Bool.false_eq_true, if_false]
  rw [h1, ← hC]
  unfold bytesRow
  have hj' : j < s.data.size := hj
  rw [Array.getElem?_append_left (by rw [Array.size_map]; exact hj'), Array.getElem?_map, Array.getElem?_eq_getElem hj']
  unfold byteF
  rw [List.getD_eq_getElem?_getD, Array.getElem?_toList, Array.getElem?_eq_getElem hj']
  rfl
 ·have h1 : (w.drew.alloc (.cells C 5 (C.size, C.size + 1))).cell? ⟨w.heap.size, s.size + j, none⟩ = C[s.size + j]? := by simp only [World.cell?, hblk, Option.isSome_none, Bool.false_eq_true, if_false]
  have h2 : (w.drew.alloc (.cells C 5 (C.size, C.size + 1))).frozen? ⟨w.heap.size, s.size + j, none⟩ = false := by
   simp only [World.frozen?, hblk]; simp; omega
  exact ⟨by rw [h1, Array.getElem?_eq_getElem (by omega)]; rfl, h2⟩
theorem wpList_convS {ops : Array Oper} {rest : List Oper} {o : Oper} {a : Act} {Q : Exit → Act → World → Prop} (hgd : o.guard = none) (x : Operand) (ho : o.op = .convert 9 24 x) (s : ByteArray) (w : World) (hx : a.eval x = .string s) (hs : s.size ≤ maxLen)
  (h : ∀ cap w', cap ≤ maxLen → SB w' w.heap.size s.size cap (byteF s) → Below w.heap.size w w' → wpList Tryz.prog ops Q rest (a.put o.dst (.slice (some ⟨w.heap.size, 0, none⟩) s.size cap)) w') :
  wpList Tryz.prog ops Q (o :: rest) a w := by
 refine wpList_plain hgd fun K hK => ?_
 obtain ⟨cap, w', hr, h1, h2, h3⟩ := conv_sb s w hs
 unfold Oper.wp execOp
 simp only [ho, hx, hr, Sem.run_bind, Sem.run_pure, Result.andThen_ok]
 exact hK _ _ (h cap w' h1 h2 h3)
theorem run_append_sb {w : World} {g n cap m c : Nat} {ad : Addr} {f G : Nat → Nat} (ty : TypeId) (h : SB w g n cap f) (hcm : cap ≤ maxLen) (hB : Bytes w (some ad) m G) (hm : n + m < 100000000000000) :
  ∃ o c' w', (Builtin.append_ #[24, 24] ty #[.slice (some ⟨g, 0, none⟩) n cap, .slice (some ad) m c]).run Tryz.prog w = .ok (.slice (some o) (n + m) c') w' ∧ n + m ≤ c' ∧ Bytes w' (some o) (n + m) (catF n f G) ∧ Own g w w' := by
 obtain ⟨i0, hi, hz0, hz1, hz2⟩ := info_parts info_u8
 by_cases hroom : n + m ≤ cap
 ·have hl : (rowC m G).length = m * i0.size := by rw [rowC_len, hz1, Nat.mul_one]
  have hf := run_firstCells_some (P := Tryz.prog) w i0.size m ad m c (rowC m G) hl hB.newsA
  rw [hz1] at hf
  have hth : ∀ j, j < (rowC m G).length → (w.cell? ⟨g, n + j, none⟩).isSome = true ∧ w.frozen? ⟨g, n + j, none⟩ = false := fun j hj => h.r j (by rw [rowC_len] at hj; omega)
  have hst := run_storeCells_cells (P := Tryz.prog) g n (rowC m G) 0 w (fun j hj => (hth j hj).1) (fun j hj => (hth j hj).2) (rowC_one m G)
  simp only [Nat.add_zero] at hst
  have hadd : (⟨g, 0, none⟩ : Addr).add (n * i0.size) = ⟨g, n, none⟩ := by rw [hz1, Nat.mul_one, Addr.add_mid, Nat.zero_add]
  refine ⟨⟨g, 0, none⟩, cap, w.setCells g n (rowC m G), ?_, hroom, fun k hk => ?_, Own.setCells _ _ _⟩
  ·have hadd1 : (⟨g, 0, none⟩ : Addr).add n = ⟨g, n, none⟩ := by rw [Addr.add_mid, Nat.zero_add]
   simp [Builtin.append_, run_underlying Tryz.underlying24, sizeOf, typeInfo, hi, Builtin.lenOf, hroom, hf, hst, hz1, hadd1]
  ·unfold catF
   by_cases e : k < n
   ·rw [if_pos e]
    refine ⟨h.b k e, g, 0, rfl, ?_⟩
    rw [Nat.zero_add, World.cell?_setCells_out g (rowC m G) n w ⟨g, k, none⟩ (fun _ _ => .inl e)]
    exact h.c k e
   ·rw [if_neg e]
    have hkm : k - n < m := by omega
    refine ⟨(hB (k - n) hkm).1, g, 0, rfl, ?_⟩
    have := World.cell?_setCells_in g (rowC m G) n w (fun j hj => (hth j hj).1) (k - n) (by rw [rowC_len]; exact hkm)
    rw [show n + (k - n) = 0 + k by omega] at this
    rw [this]
    have h2 := rowC_get G hkm
    rw [List.getElem?_eq_getElem (by rw [rowC_len]; exact hkm)] at h2
    exact h2
 ·have hlo : (rowC n f).length = n * i0.size := by rw [rowC_len, hz1, Nat.mul_one]
  have hl : (rowC m G).length = m * i0.size := by rw [rowC_len, hz1, Nat.mul_one]
  have hr := run_append_grow (P := Tryz.prog) w 24 ty 5 i0 (.int .u8 0) Tryz.underlying24 hi hz0 ⟨g, 0, none⟩ n cap (rowC n f) hlo h.bytes.newsA ad m c (rowC m G) hl hB.newsA (by omega) (by omega) (growslice_fits (by omega) (by rw [hz2]; omega))
  obtain ⟨cp, hcp⟩ := zX (grownCap w (n + m) cap 5)
  have hge : n + m ≤ cp := hcp ▸ grownCap_ge w (n + m) cap _
  rw [hcp] at hr
  refine ⟨_, _, _, hr, hge, fun k hk => ?_, Own.of_below ((Below.refl _ w).drew.alloc (Nat.le_refl _) _)⟩
  have hblk : ∀ C : Array Value, (w.drew.alloc (.cells C 5)).cell? ⟨w.heap.size, 0 + k, none⟩ = C[k]? := fun C => by
   have : (w.drew.alloc (.cells C 5)).heap[w.heap.size]? = some (.cells C 5) := by
    show (w.heap.push _)[w.heap.size]? = _
    simp
   rw [Nat.zero_add]; simp only [World.cell?, this, Option.isSome_none, Bool.false_eq_true, if_false]
  have hb : catF n f G k < 256 := by
   unfold catF
   by_cases e : k < n
   ·rw [if_pos e]; exact h.b k e
   ·rw [if_neg e]; exact (hB (k - n) (by omega)).1
  refine ⟨hb, w.heap.size, 0, rfl, ?_⟩
  rw [hblk]
  have h2 := rowC_get (n := n + m) (catF n f G) hk
  rw [rowC_cat] at h2
  rw [Array.getElem?_append_left (by simp [rowC_len]; exact hk)]
  rw [← Array.getElem?_toList]
  simpa using h2
theorem wpList_appS {ops : Array Oper} {rest : List Oper} {o : Oper} {a : Act} {Q : Exit → Act → World → Prop} (hgd : o.guard = none) (s x : Operand)
  (ho : o.op = .call { callee := .builtin .append, args := #[s, x], argTypes := #[24, 24] })
  (g n cap m c : Nat) (ad : Addr) (f G : Nat → Nat) (w : World) (hs : a.eval s = .slice (some ⟨g, 0, none⟩) n cap) (h : SB w g n cap f) (hcm : cap ≤ maxLen) (hx : a.eval x = .slice (some ad) m c) (hB : Bytes w (some ad) m G) (hm : n + m < 100000000000000)
  (hk : ∀ o' c' w', n + m ≤ c' → Bytes w' (some o') (n + m) (catF n f G) → Own g w w' → wpList Tryz.prog ops Q rest (a.put o.dst (.slice (some o') (n + m) c')) w') :
  wpList Tryz.prog ops Q (o :: rest) a w := by
 refine wpList_plain hgd fun K hK => ?_
 obtain ⟨o', c', w', hr, h1, h2, h3⟩ := run_append_sb o.type h hcm hB hm (c := c)
 unfold Oper.wp execOp
 simp only [ho, resolve, invoke, builtin, Sem.run_bind, Sem.run_pure, Result.andThen_ok, List.map_toArray, List.map_cons, List.map_nil, hs, hx, hr]
 exact hK _ _ (hk o' c' w' h1 h2 h3)
set_option maxHeartbeats 4000000
section
open Go.RowKit Go.Extern.Stop Go.Stop Go.Extern
theorem Tryz.valueOfT (t : Addr) (w : World) : (ReflectliteValue.unpack (.iface 65 (.pointer (some t)))).run Tryz.prog w
  = .ok (.agg #[.pointer (some ⟨3, 65, none⟩), .pointer (some ⟨w.heap.size, 0, none⟩), .int .u64 150]) (w.alloc (.cells #[.pointer (some t)] 65)) := by kernel_rfl
theorem Tryz.typeT (a : Addr) (w : World) : (ReflectliteValue.methodAny (ReflectliteValue.valueError "reflectlite.Value.Type" 0) (fun t _ _ _ => ReflectliteType.toType t) #[.agg #[.pointer (some ⟨3, 65, none⟩), .pointer (some a), .int .u64 150]]).run Tryz.prog w
  = .ok (.iface 131 (.agg #[.pointer (some ⟨3, 65, none⟩)])) w := by kernel_rfl
theorem Tryz.methodKind (h : Value) (w : World) : (Go.method 350 131 (.agg #[h]) "Kind").run Tryz.prog w = .ok (155, h) w := by kernel_rfl
theorem Tryz.kindT (w : World) : ((ReflectliteType.abiMethod fun t => (fun a : Nat => Value.int IntKind.u8 (a : Int)) <$> Rtype.kind t) #[.pointer (some ⟨3, 65, none⟩)]).run Tryz.prog w = .ok (.int .u8 22) w := by kernel_rfl
theorem Tryz.kindE (w : World) : ((ReflectliteType.abiMethod fun t => (fun a : Nat => Value.int IntKind.u8 (a : Int)) <$> Rtype.kind t) #[.pointer (some ⟨3, 53, none⟩)]).run Tryz.prog w = .ok (.int .u8 2) w := by kernel_rfl
theorem rlm (z : Sem Value) (f : TypeId → Addr → Nat → Nat → Sem Value) (v : Value) :
  ReflectliteValue.method z f #[v] = (do match ← ReflectliteValue.parts v with | none => z | some (t, a, fl) => f t a fl (fl % 32)) := rfl
theorem Tryz.partsT (a : Addr) (w : World) : (ReflectliteValue.parts (.agg #[.pointer (some ⟨3, 65, none⟩), .pointer (some a), .int .u64 150])).run Tryz.prog w = .ok (some (65, a, 150)) w := by kernel_rfl
theorem Tryz.isNilT (a p : Addr) (W : World) (ha : W.cell? a = some (.pointer (some p))) :
  (ReflectliteValue.method (ReflectliteValue.valueError "reflectlite.Value.IsNil" 0) ReflectliteValue.isNil #[.agg #[.pointer (some ⟨3, 65, none⟩), .pointer (some a), .int .u64 150]]).run Tryz.prog W = .ok (.bool false) W := by
 rw [rlm]
 simp only [Sem.run_bind, Tryz.partsT, Result.andThen]
 simp [ReflectliteValue.isNil, loadVar, isAgg, underlying, Tryz.underlying65, ha, Result.andThen]
theorem Tryz.methodElem (h : Value) (w : World) : (Go.method 350 131 (.agg #[h]) "Elem").run Tryz.prog w = .ok (166, .agg #[h]) w := by kernel_rfl
theorem Tryz.methodImplements (h : Value) (w : World) : (Go.method 350 131 (.agg #[h]) "Implements").run Tryz.prog w = .ok (167, .agg #[h]) w := by kernel_rfl
theorem Tryz.methodAssignableTo (h : Value) (w : World) : (Go.method 350 131 (.agg #[h]) "AssignableTo").run Tryz.prog w = .ok (164, .agg #[h]) w := by kernel_rfl
theorem Tryz.elemT (w : World) : (ReflectliteType.method ReflectliteType.elem #[.agg #[.pointer (some ⟨3, 65, none⟩)]]).run Tryz.prog w = .ok (.iface 131 (.agg #[.pointer (some ⟨3, 53, none⟩)])) w := by kernel_rfl
theorem Tryz.implementsE (w : World) : (ReflectliteType.relation "Implements" ReflectliteType.implements_ #[.agg #[.pointer (some ⟨3, 53, none⟩)], .iface 131 (.agg #[.pointer (some ⟨3, 26, none⟩)])]).run Tryz.prog w = .ok (.bool true) w := by kernel_rfl
theorem Tryz.typeOfE (v : Value) (w : World) : (ReflectliteType.typeOf #[.iface 53 v]).run Tryz.prog w = .ok (.iface 131 (.agg #[.pointer (some ⟨3, 53, none⟩)])) w := by kernel_rfl
theorem Tryz.assignableE (w : World) : (ReflectliteType.relation "AssignableTo" ReflectliteType.assignableTo #[.agg #[.pointer (some ⟨3, 53, none⟩)], .iface 131 (.agg #[.pointer (some ⟨3, 53, none⟩)])]).run Tryz.prog w = .ok (.bool true) w := by kernel_rfl
theorem Tryz.valueOfE (n : Int) (w : World) : (ReflectliteValue.unpack (.iface 53 (.int .i64 n))).run Tryz.prog w
  = .ok (.agg #[.pointer (some ⟨3, 53, none⟩), .pointer (some ⟨w.heap.size, 0, none⟩), .int .u64 130]) (w.alloc (.cells #[.int .i64 n] 53)) := by kernel_rfl
theorem Tryz.elemOfT (w : World) : (Rtype.elem? 65).run Tryz.prog w = .ok (some 53) w := by kernel_rfl
theorem Tryz.mkE (p : Addr) (w : World) : (ReflectliteValue.mk 53 p ReflectliteValue.flagAddr).run Tryz.prog w = .ok (.agg #[.pointer (some ⟨3, 53, none⟩), .pointer (some p), .int .u64 386]) w := by kernel_rfl
theorem Tryz.elemVT (a p : Addr) (W : World) (ha : W.cell? a = some (.pointer (some p))) :
  (ReflectliteValue.method (ReflectliteValue.valueError "reflectlite.Value.Elem" 0) ReflectliteValue.elem #[.agg #[.pointer (some ⟨3, 65, none⟩), .pointer (some a), .int .u64 150]]).run Tryz.prog W
   = .ok (.agg #[.pointer (some ⟨3, 53, none⟩), .pointer (some p), .int .u64 386]) W := by
 rw [rlm]
 simp only [Sem.run_bind, Tryz.partsT, Result.andThen]
 simp [ReflectliteValue.elem, loadVar, isAgg, underlying, Tryz.underlying65, ha, Result.andThen, Tryz.elemOfT, Tryz.mkE]
theorem rls (v x : Value) : ReflectliteValue.set #[v, x] = (do
  let (some (dst, a, fl), some (src, b, _)) := (← ReflectliteValue.parts v, ← ReflectliteValue.parts x)
   | unsupported (.noEntry "extern/(internal/reflectlite.Value).Set.zeroValue")
  if fl / ReflectliteValue.flagAddr % 2 == 0 then unsupported (.noEntry "extern/(internal/reflectlite.Value).Set.unaddressable")
  let val ← loadVar src b
  if ← Rtype.directlyAssignable dst src then storeVar dst a val
  else if ← Rtype.implements dst src then
   if (← Rtype.kind src) == 20 then
    match val with
    | .nilIface => unsupported (.noEntry "extern/reflectlite: a nil value of one interface type handed on as a value of another")
    | _ => storeVar dst a val
   else storeVar dst a (.iface src val)
  else panicString ("reflectlite.Set: value of type " ++ (← Rtype.spelt src) ++ " is not assignable to type " ++ (← Rtype.spelt dst))
  pure (.tuple #[])) := rfl
theorem Tryz.partsEa (a : Addr) (w : World) : (ReflectliteValue.parts (.agg #[.pointer (some ⟨3, 53, none⟩), .pointer (some a), .int .u64 386])).run Tryz.prog w = .ok (some (53, a, 386)) w := by kernel_rfl
theorem Tryz.partsE (a : Addr) (w : World) : (ReflectliteValue.parts (.agg #[.pointer (some ⟨3, 53, none⟩), .pointer (some a), .int .u64 130])).run Tryz.prog w = .ok (some (53, a, 130)) w := by kernel_rfl
theorem Tryz.directE (w : World) : (Rtype.directlyAssignable 53 53).run Tryz.prog w = .ok true w := by kernel_rfl
theorem Tryz.setE (ta b : Addr) (n : Int) (old : Value) (W : World) (hb : W.cell? b = some (.int .i64 n)) (ht : W.cell? ta = some old) (hf : W.frozen? ta = false) :
  (ReflectliteValue.set #[.agg #[.pointer (some ⟨3, 53, none⟩), .pointer (some ta), .int .u64 386], .agg #[.pointer (some ⟨3, 53, none⟩), .pointer (some b), .int .u64 130]]).run Tryz.prog W
   = .ok (.tuple #[]) (W.setCell ta (.int .i64 n)) := by
 rw [rls]
 simp only [Sem.run_bind, Tryz.partsEa, Tryz.partsE, Result.andThen]
 simp [ReflectliteValue.flagAddr, loadVar, isAgg, underlying, Tryz.underlying53, hb, Result.andThen, Tryz.directE, storeVar, Value.cells, storeCells, Addr.add]
 rw [run_store Tryz.prog W ta _ _ (by rfl)]
 simp [ht, hf]
theorem as_hit (n : Int) (t : Addr) (old : Value) (w : World) (hg : w.cell? ⟨0, 0, none⟩ = some (.iface 131 (.agg #[.pointer (some ⟨3, 26, none⟩)]))) (ht0 : w.cell? t = some old) (hf0 : w.frozen? t = false) :
  Calls Tryz.prog 26 #[.iface 53 (.int .i64 n), .iface 65 (.pointer (some t))] w fun ev w' => ev = .returned (.bool true) ∧ w' = ((((w.alloc (.cells #[.pointer (some t)] 65)).alloc (.cells #[.pointer (some ⟨3, 65, none⟩), .pointer (some ⟨w.heap.size, 0, none⟩), .int .u64 150] 96)).alloc (.cells #[.pointer (some ⟨3, 65, none⟩), .pointer (some ⟨w.heap.size, 0, none⟩), .int .u64 150] 96)).alloc (.cells #[.int .i64 n] 53)).setCell t (.int .i64 n) := by
 have h6 := @run_callFunc_extern Tryz.prog 44 _ (fun args => ReflectliteValue.unpack (args.getD 0 (.tuple #[]))) Tryz.func44 (by kernel_rfl) (by kernel_rfl) (by kernel_rfl) (by kernel_rfl)
 have h7 := @run_callFunc_extern Tryz.prog 45 _ (ReflectliteValue.methodAny (ReflectliteValue.valueError "reflectlite.Value.Type" 0) (fun t _ _ _ => ReflectliteType.toType t)) Tryz.func45 (by kernel_rfl) (by kernel_rfl) (by kernel_rfl) (by kernel_rfl)
 have h8 := @run_callFunc_extern Tryz.prog 46 _ (ReflectliteValue.method (ReflectliteValue.valueError "reflectlite.Value.IsNil" 0) ReflectliteValue.isNil) Tryz.func46 (by kernel_rfl) (by kernel_rfl) (by kernel_rfl) (by kernel_rfl)
 have h27 := @run_callFunc_extern Tryz.prog 155 _ (ReflectliteType.abiMethod fun t => do pure (.int .u8 (← Rtype.kind t))) Tryz.func155 (by kernel_rfl) (by kernel_rfl) (by kernel_rfl) (by kernel_rfl)
 have h37 := @run_callFunc_extern Tryz.prog 166 _ (ReflectliteType.method ReflectliteType.elem) Tryz.func166 (by kernel_rfl) (by kernel_rfl) (by kernel_rfl) (by kernel_rfl)
 have h38 := @run_callFunc_extern Tryz.prog 167 _ (ReflectliteType.relation "Implements" ReflectliteType.implements_) Tryz.func167 (by kernel_rfl) (by kernel_rfl) (by kernel_rfl) (by kernel_rfl)
 have h10 := @run_callFunc_extern Tryz.prog 66 _ ReflectliteType.typeOf Tryz.func66 (by kernel_rfl) (by kernel_rfl) (by kernel_rfl) (by kernel_rfl)
 have h35 := @run_callFunc_extern Tryz.prog 164 _ (ReflectliteType.relation "AssignableTo" ReflectliteType.assignableTo) Tryz.func164 (by kernel_rfl) (by kernel_rfl) (by kernel_rfl) (by kernel_rfl)
 have h11 := @run_callFunc_extern Tryz.prog 67 _ (ReflectliteValue.method (ReflectliteValue.valueError "reflectlite.Value.Elem" 0) ReflectliteValue.elem) Tryz.func67 (by kernel_rfl) (by kernel_rfl) (by kernel_rfl) (by kernel_rfl)
 have h12 := @run_callFunc_extern Tryz.prog 68 _ ReflectliteValue.set Tryz.func68 (by kernel_rfl) (by kernel_rfl) (by kernel_rfl) (by kernel_rfl)
 have tO := Tryz.typeOfE
 have mA := Tryz.methodAssignableTo
 have a25 := Tryz.assignableE
 have v25 := Tryz.valueOfE
 have f6 := Tryz.valueOfT
 have f7 := Tryz.typeT
 have mK := Tryz.methodKind
 have mE := Tryz.methodElem
 have mI := Tryz.methodImplements
 have k27 := Tryz.kindT
 have k25 := Tryz.kindE
 have e27 := Tryz.elemT
 have i25 := Tryz.implementsE
 have n8 := Tryz.isNilT ⟨w.heap.size, 0, none⟩ t ((w.alloc (.cells #[.pointer (some t)] 65)).alloc (.cells #[.pointer (some ⟨3, 65, none⟩), .pointer (some ⟨w.heap.size, 0, none⟩), .int .u64 150] 96)) (by simp)
 have hlt : 0 < w.heap.size := by
  rcases Nat.lt_or_ge 0 w.heap.size with h | h
  ·exact h
  ·simp [World.cell?, Array.getElem?_eq_none h] at hg
 have hg2 : ((w.alloc (.cells #[.pointer (some t)] 65)).alloc (.cells #[.pointer (some ⟨3, 65, none⟩), .pointer (some ⟨w.heap.size, 0, none⟩), .int .u64 150] 96)).cell? ⟨0, 0, none⟩ = some (.iface 131 (.agg #[.pointer (some ⟨3, 26, none⟩)])) := by
  rw [World.cell?_alloc_lt _ _ ⟨0, 0, none⟩ (by simp <;> omega), World.cell?_alloc_lt _ _ ⟨0, 0, none⟩ hlt]; exact hg
 have htl : t.block < w.heap.size := by
  rcases Nat.lt_or_ge t.block w.heap.size with h | h
  ·exact h
  ·simp [World.cell?, Array.getElem?_eq_none h] at ht0
 have el := Tryz.elemVT ⟨w.heap.size, 0, none⟩ t (((w.alloc (.cells #[.pointer (some t)] 65)).alloc (.cells #[.pointer (some ⟨3, 65, none⟩), .pointer (some ⟨w.heap.size, 0, none⟩), .int .u64 150] 96)).alloc (.cells #[.pointer (some ⟨3, 65, none⟩), .pointer (some ⟨w.heap.size, 0, none⟩), .int .u64 150] 96)) (by rw [World.cell?_alloc_lt _ _ ⟨w.heap.size, 0, none⟩ (by simp; omega)]; simp)
 have st := Tryz.setE t ⟨w.heap.size + 1 + 1 + 1, 0, none⟩ n old ((((w.alloc (.cells #[.pointer (some t)] 65)).alloc (.cells #[.pointer (some ⟨3, 65, none⟩), .pointer (some ⟨w.heap.size, 0, none⟩), .int .u64 150] 96)).alloc (.cells #[.pointer (some ⟨3, 65, none⟩), .pointer (some ⟨w.heap.size, 0, none⟩), .int .u64 150] 96)).alloc (.cells #[.int .i64 n] 53))
  (by rw [World.cell?_alloc_at _ _ _ _ (by simp)]; rfl)
  (by rw [World.cell?_alloc_lt _ _ t (by simp; omega), World.cell?_alloc_lt _ _ t (by simp; omega), World.cell?_alloc_lt _ _ t (by simp; omega), World.cell?_alloc_lt _ _ t htl]; exact ht0)
  (by rw [World.frozen?_alloc_old _ _ t (by simp; omega), World.frozen?_alloc_old _ _ t (by simp; omega), World.frozen?_alloc_old _ _ t (by simp; omega), World.frozen?_alloc_old _ _ t (Nat.ne_of_lt htl)]; exact hf0)
 go_enter Tryz.func26, Tryz.ntmps26
 go_wp2
 refine wp_loop_rounds 1 ?_
 rw [rounds_succ]
 go_wp2
 go_ret
 exact ⟨rfl, rfl⟩
def Handle (w : World) : Prop := w.cell? ⟨0, 0, none⟩ = some (.iface 131 (.agg #[.pointer (some ⟨3, 26, none⟩)])) ∧ 0 < w.heap.size
theorem Handle.of {w : World} (hg : w.cell? ⟨0, 0, none⟩ = some (.iface 131 (.agg #[.pointer (some ⟨3, 26, none⟩)]))) : Handle w := by
 refine ⟨hg, ?_⟩
 rcases Nat.lt_or_ge 0 w.heap.size with h | h
 ·exact h
 ·simp [World.cell?, Array.getElem?_eq_none h] at hg
theorem Handle.alloc {w : World} (h : Handle w) (o : Obj) : Handle (w.alloc o) := by
 refine Handle.of ?_
 rw [World.cell?_alloc_lt _ _ ⟨0, 0, none⟩ h.2]; exact h.1
theorem Handle.below {w w' : World} {B : Nat} (h : Handle w) (hb : Below B w w') (hB : 0 < B) : Handle w' :=
 Handle.of ((hb.cell (p := ⟨0, 0, none⟩) hB).trans h.1)
theorem Handle.later {w w' : World} (h : Handle w) (hb : Below w.heap.size w w') : Handle w' := h.below hb h.2
theorem Handle.drew {w : World} (h : Handle w) : Handle w.drew := Handle.of h.1
end
set_option maxHeartbeats 200000
theorem wpList_valueG {ops : Array Oper} {rest : List Oper} {o : Oper} {a : Act} {w : World} {Q : Exit → Act → World → Prop} {v : Value} (hw : Region.wanted o (yielded ops a.tmps) = true) (he : (execOp a.eval o).run Tryz.prog w = .ok (.value v) w)
  (hk : wpList Tryz.prog ops Q rest (a.put o.dst v) w) : wpList Tryz.prog ops Q (o :: rest) a w := by
 refine wpList_step fun K hK => ?_
 rw [if_pos hw]
 unfold Oper.wp
 rw [he]
 exact hK _ _ hk
structure ZE (w0 : World) (g q : Nat) (F : Nat → Nat) (va : Value) (c B : Nat) (E EM : Nat → Nat) (vs : Value) (wr : World) : Prop where
 h : HS wr g q F
 a : Grow wr w0.heap.size va q F
 f : ∀ i, i < q → F i < 256
 o : Below w0.heap.size w0 wr
 v : GV wr
 gb : w0.heap.size ≤ g
 gv0 : 1 < w0.heap.size ∧ 2 < w0.heap.size
 na : ∀ k, va.ownBlock = some k → k ≠ g
 c : HS wr c (B + 4) EM
 s : Grow wr w0.heap.size vs B E
 se : ∀ i, i < B → E i < 256
 sB : B ≤ 3600
 n : ∀ k, vs.ownBlock = some k → k ≠ g ∧ va.ownBlock ≠ some k
theorem ZE.later {w0 : World} {g q c B : Nat} {F E EM : Nat → Nat} {va vs : Value} {wr w' : World} (h : ZE w0 g q F va c B E EM vs wr) (hb : Below wr.heap.size wr w') : ZE w0 g q F va c B E EM vs w' :=
 ⟨h.h.later hb, h.a.later hb, h.f, h.o.trans (hb.mono h.o.size), h.v.later hb, h.gb, h.gv0, h.na, h.c.later hb, h.s.later hb, h.se, h.sB, h.n⟩
structure ZF (w0 : World) (g q : Nat) (F : Nat → Nat) (va : Value) (wr : World) : Prop where
 h : HS wr g q F
 a : Grow wr w0.heap.size va q F
 f : ∀ i, i < q → F i < 256
 o : Below w0.heap.size w0 wr
 v : GV wr
theorem ZF.later {w0 : World} {g q : Nat} {F : Nat → Nat} {va : Value} {wr w' : World} (h : ZF w0 g q F va wr) (hb : Below wr.heap.size wr w') : ZF w0 g q F va w' :=
 ⟨h.h.later hb, h.a.later hb, h.f, h.o.trans (hb.mono h.o.size), h.v.later hb⟩
theorem ZE.grew {w0 : World} {g q c B : Nat} {F E EM : Nat → Nat} {va vs : Value} {wr w' : World} (h : ZE w0 g q F va c B E EM vs wr) (hg : wr.grownBy w' vs.ownBlock) : ZF w0 g q F va w' := by
 have hO := own_of_grown hg
 have hn : ∀ x, x < wr.heap.size → (∀ k, vs.ownBlock = some k → k ≠ x) → x ≠ vs.ownBlock.getD wr.heap.size := fun x hx hk => by
  cases e : vs.ownBlock with
  | none => simp; omega
  | some b => simp; exact fun e2 => hk b e e2.symm
 have hge : w0.heap.size ≤ vs.ownBlock.getD wr.heap.size := by
  cases e : vs.ownBlock with
  | none => simp; exact h.o.size
  | some b => simp; exact (h.s.lt b e).1
 refine ⟨h.h.own hO (hn g h.h.lt fun k hk => (h.n k hk).1), h.a.ownN hO fun k hk => hn k (h.a.lt k hk).2 (fun k' hk' e => (h.n k' hk').2 (by rw [hk, e])), h.f, h.o.trans (hO.below hge h.o.size), ?_⟩
 exact h.v.own hO (by have := h.gv0; omega) (by have := h.gv0; omega)
theorem str_ne {S1 S2 : ByteArray} (h : S1 ≠ S2) : ¬ S1.toList = S2.toList := fun e => h (by
 rw [ByteArray.toList_eq, ByteArray.toList_eq] at e
 cases S1; cases S2
 exact congrArg ByteArray.mk (Array.toList_inj.1 e))
def GH (w : World) : Prop := GV w ∧ Handle w
theorem GH.later {w w' : World} (h : GH w) (hb : Below w.heap.size w w') : GH w' := ⟨h.1.later hb, h.2.later hb⟩
theorem conv_any {w : World} {oa : Option Addr} {n cap : Nat} {f : Nat → Nat} (h : Bytes w oa n f) (hno : oa = none → n = 0) : (convert 24 9 (.slice oa n cap)).run Tryz.prog w = .ok (.string (strF n f)) w := by
 by_cases h0 : n = 0
 ·subst h0
  have e : strF 0 f = ⟨#[]⟩ := rfl
  rw [e]
  cases oa with
  | none => exact Lib.run_convert_nil_bytes w 24 9 5 cap Tryz.underlying24 Tryz.underlying5 Tryz.underlying9
  | some ad => exact run_convert_bytes_back w 24 9 5 ad cap [] Tryz.underlying24 Tryz.underlying5 Tryz.underlying9 (fun j hj => absurd hj (Nat.not_lt_zero _))
 ·obtain ⟨_, b, off, rfl, _⟩ := h 0 (by omega)
  exact h.conv
theorem exec_convO {o : Oper} {a : Act} {w : World} {x : Operand} {oa : Option Addr} {n cap : Nat} {S : ByteArray} (ho : o.op = .convert 24 9 x) (hx : a.eval x = .slice oa n cap) (h : (convert 24 9 (.slice oa n cap)).run Tryz.prog w = .ok (.string S) w) : (execOp a.eval o).run Tryz.prog w = .ok (.value (.string S)) w := by
 unfold execOp
 simp only [ho, hx, h, Sem.run_bind, Result.andThen_ok]
 rfl
def CV (w : World) (o : Option Addr) (m : Nat) (S : ByteArray) : Prop := ∃ F, Bytes w o m F ∧ (o = none → m = 0) ∧ strF m F = S
theorem CV.later {w w' : World} {o : Option Addr} {m : Nat} {S : ByteArray} (h : CV w o m S) (hb : Below w.heap.size w w') : CV w' o m S := by
 obtain ⟨F, h1, h2, h3⟩ := h; exact ⟨F, h1.later hb, h2, h3⟩
theorem CV.conv {w : World} {o : Option Addr} {m c : Nat} {S : ByteArray} (h : CV w o m S) : (convert 24 9 (.slice o m c)).run Tryz.prog w = .ok (.string S) w := by
 obtain ⟨F, h1, h2, rfl⟩ := h; exact conv_any h1 h2
theorem CV.none (w : World) : CV w none 0 ⟨#[]⟩ := ⟨fun _ => 0, fun k hk => absurd hk (Nat.not_lt_zero _), fun _ => rfl, rfl⟩
theorem step_valueG {ops : Array Oper} {o : Oper} {a : Act} {w : World} {K : Act → World → Prop} {Q : Exit → Act → World → Prop} {E : Prop} {v : Value} (hw : Region.wanted o (yielded ops a.tmps) = true) (he : (execOp a.eval o).run Tryz.prog w = .ok (.value v) w)
  (h : K (a.put o.dst v) w) : if Region.wanted o (yielded ops a.tmps) = true then Oper.wp Tryz.prog o a w K Q else E := by
 rw [if_pos hw]
 unfold Oper.wp
 rw [he]
 exact h
structure HK (w0 : World) (o8 o10 o12 o14 : Option Addr) (m8 m10 m12 m14 g7 : Nat) (S1 S2 S3 : ByteArray) (wr : World) : Prop where
 a : CV wr o8 m8 S1
 b : CV wr o10 m10 S1
 c : CV wr o12 m12 S2
 d : CV wr o14 m14 S2
 e : CV wr (some ⟨g7, 0, none⟩) 32 S3
 o : Below w0.heap.size w0 wr
theorem HK.later {w0 wr w' : World} {o8 o10 o12 o14 : Option Addr} {m8 m10 m12 m14 g7 : Nat} {S1 S2 S3 : ByteArray} (h : HK w0 o8 o10 o12 o14 m8 m10 m12 m14 g7 S1 S2 S3 wr) (hb : Below wr.heap.size wr w') : HK w0 o8 o10 o12 o14 m8 m10 m12 m14 g7 S1 S2 S3 w' :=
 ⟨h.a.later hb, h.b.later hb, h.c.later hb, h.d.later hb, h.e.later hb, h.o.trans (hb.mono h.o.size)⟩
end Go.Proofs.YtncfocjmdecapaaGreatDoor
