/- GCM in plain mathematics. GCM: a key; a nonce's counter block, ciphered. -/
import Derived.Deep.RegionHeld3
import Derived.Deep.DeepCutAuto
import Derived.Laws.CopyOwn
import Derived.Test.YtncfocjmdecapaaGreatDoorZB0
import Derived.Test.YtncfocjmdecapaaGreatDoorZS1
import Derived.Test.YtncfocjmdecapaaGreatDoorZS2
import Derived.Test.YtncfocjmdecapaaGreatDoorZSh4
import Derived.Test.YtncfocjmdecapaaGreatDoorZA0
import Derived.Test.YtncfocjmdecapaaGreatDoorZS5
import Derived.Test.YtncfocjmdecapaaGreatDoorZSh7
import Derived.Test.YtncfocjmdecapaaGreatDoorZS8
import Derived.Test.YtncfocjmdecapaaGreatDoorZHm2
import Derived.Test.YtncfocjmdecapaaGreatDoorZAs
import Derived.Test.YtncfocjmdecapaaGreatDoorZR0
import Derived.Test.YtncfocjmdecapaaGreatDoorZF1
import Derived.Test.YtncfocjmdecapaaGreatDoorZF2
import Derived.Test.YtncfocjmdecapaaGreatDoorZB16
import Derived.Test.YtncfocjmdecapaaGreatDoorZAe1
import Derived.Test.YtncfocjmdecapaaGreatDoorZAe2
import Derived.Test.YtncfocjmdecapaaGreatDoorZAe4
import Derived.Test.YtncfocjmdecapaaGreatDoorZAe5
import Derived.Test.YtncfocjmdecapaaGreatDoorZQ0
import Derived.Test.YtncfocjmdecapaaGreatDoorZQ6
import Derived.Test.YtncfocjmdecapaaGreatDoorZGh10
namespace Go.Proofs.YtncfocjmdecapaaGreatDoor
set_option linter.unusedVariables false
set_option linter.unusedSimpArgs false
open Go.RowKit
/-- A nonce's counter block. -/
def ctrB (nn : Nat → Nat) (c : Nat) : Nat → Nat := fun i => if i < 12 then nn i else numB c 4 (i - 12)
theorem ctrB_lt {nn : Nat → Nat} {c : Nat} (hn : ∀ i, i < 12 → nn i < 256) : ∀ i, i < 16 → ctrB nn c i < 256 := fun i _ => by
  unfold ctrB; split
  · exact hn i (by assumption)
  · exact numB_lt _ _ _
/-- It, ciphered. -/
def cW (W nn : Nat → Nat) (c : Nat) : Nat → Nat := encK subN W (ctrB nn c) 14
theorem cW_lt {W nn : Nat → Nat} {c : Nat} (hn : ∀ i, i < 12 → nn i < 256) : ∀ i, i < 16 → cW W nn c i < 256 := fun i hi => encK_lt subN_lt (ctrB_lt hn) 14 i hi
theorem xor_lt256 {a b : Nat} (ha : a < 256) (hb : b < 256) : a ^^^ b < 256 := Nat.xor_lt_two_pow (n := 8) ha hb
/-- Bytes, ciphered. -/
def cphF (W nn p : Nat → Nat) : Nat → Nat := fun i => p i ^^^ cW W nn (2 + i / 16) (i % 16)
theorem cphF_lt {W nn p : Nat → Nat} {n : Nat} (hn : ∀ i, i < 12 → nn i < 256) (hp : ∀ i, i < n → p i < 256) : ∀ i, i < n → cphF W nn p i < 256 := fun i hi => xor_lt256 (hp i hi) (cW_lt hn _ (Nat.mod_lt _ (by decide)))
theorem cphF_back (W nn p : Nat → Nat) (i : Nat) : cphF W nn (cphF W nn p) i = p i := by
  unfold cphF; rw [Nat.xor_assoc, Nat.xor_self, Nat.xor_zero]
theorem cphF_congr {W nn p q : Nat → Nat} {i : Nat} (h : p i = q i) : cphF W nn p i = cphF W nn q i := by unfold cphF; rw [h]
/-- The block of noughts, ciphered. -/
def h0F (W : Nat → Nat) : Nat → Nat := encK subN W (fun _ => 0) 14
theorem h0F_lt (W : Nat → Nat) : ∀ i, i < 16 → h0F W i < 256 := fun i hi => encK_lt subN_lt (fun _ _ => Nat.zero_lt_succ _) 14 i hi
/-- The tag of ciphered bytes, and of the bytes beside. -/
def tgF (W nn a : Nat → Nat) (an : Nat) (c : Nat → Nat) (cn : Nat) : Nat → Nat := addF (hashF (h0F W) a an c cn) (cW W nn 1)
theorem tgF_lt {W nn a c : Nat → Nat} {an cn : Nat} (hn : ∀ i, i < 12 → nn i < 256) : ∀ i, i < 16 → tgF W nn a an c cn i < 256 := fun i hi => xor_lt256 (mulF_lt _ _ _) (cW_lt hn i hi)
theorem thrF_congr {h f g : Nat → Nat} {n : Nat} (s : Nat → Nat) (hfg : ∀ i, i < n → f i = g i) : ∀ k, thrF h f n s k = thrF h g n s k
  | 0 => rfl
  | k + 1 => by
    show mulF (addF (thrF h f n s k) (chF f n k)) h = mulF (addF (thrF h g n s k) (chF g n k)) h
    rw [thrF_congr s hfg k]
    congr 2
    funext i
    unfold chF
    split
    · exact hfg _ (by assumption)
    · rfl
theorem tgF_congr {W nn a c d : Nat → Nat} {an cn : Nat} (h : ∀ i, i < cn → c i = d i) : tgF W nn a an c cn = tgF W nn a an d cn := by
  unfold tgF hashF twoF
  rw [thrF_congr _ h]
/-- Bytes, sealed. -/
def boxF (W nn p : Nat → Nat) (n : Nat) (a : Nat → Nat) (an : Nat) : Nat → Nat := catF n (cphF W nn p) (tgF W nn a an (cphF W nn p) n)
theorem boxF_lt {W nn p a : Nat → Nat} {n an : Nat} (hn : ∀ i, i < 12 → nn i < 256) (hp : ∀ i, i < n → p i < 256) : ∀ i, i < n + 16 → boxF W nn p n a an i < 256 := catF_b (cphF_lt hn hp) (tgF_lt hn)
end Go.Proofs.YtncfocjmdecapaaGreatDoor
namespace Go.Proofs.YtncfocjmdecapaaGreatDoor
set_option linter.unusedVariables false
set_option linter.unusedSimpArgs false
set_option linter.unusedVariables false
set_option linter.unusedSimpArgs false
open Go.RowKit
/-- A key, as memory has it: where the cipher's own lies, and the block of noughts, ciphered. -/
def gkC (kb : Nat) (H : Nat → Nat) : List Value := .pointer (some ⟨kb, 0, none⟩) :: rowC 16 H
structure KG (w : World) (g kb bx : Nat) (W : Nat → Nat) : Prop where
  me : Blk w g (gkC kb (h0F W)).toArray 116
  key : KeyB w kb W bx
  box : BoxIn w bx
  gne : g ≠ bx
  kne : kb ≠ bx
theorem KG.own {w w' : World} {g kb bx : Nat} {W : Nat → Nat} (h : KG w g kb bx W) (hO : Own bx w w') (hB : BoxIn w' bx) : KG w' g kb bx W :=
  ⟨hO.blk h.me h.gne, hO.blk h.key h.kne, hB, h.gne, h.kne⟩
theorem KG.below {w w' : World} {g kb bx : Nat} {W : Nat → Nat} (h : KG w g kb bx W) (hb : Below w.heap.size w w') : KG w' g kb bx W :=
  h.own (Own.of_below hb) (h.box.below hb)
theorem KG.low {w0 w w' : World} {g kb bx : Nat} {W : Nat → Nat} (h0 : KG w0 g kb bx W) (h : KG w g kb bx W) (hb : Below w0.heap.size w w') : KG w' g kb bx W :=
  ⟨Blk.below h.me hb (Blk.lt h0.me), Blk.below h.key hb (Blk.lt h0.key), by
    rcases h.box with t | t
    · exact Or.inl ⟨Blk.below t.1 hb (h0.box.lt), t.2⟩
    · exact Or.inr ⟨Blk.below t.1 hb (h0.box.lt), t.2⟩, h.gne, h.kne⟩
theorem KG.cell {w : World} {g kb bx : Nat} {W : Nat → Nat} (h : KG w g kb bx W) : w.cell? ⟨g, 0, none⟩ = some (.pointer (some ⟨kb, 0, none⟩)) := by
  rw [Blk.cell h.me]; rfl
theorem KG.lt {w : World} {g kb bx : Nat} {W : Nat → Nat} (h : KG w g kb bx W) : g < w.heap.size ∧ kb < w.heap.size ∧ bx < w.heap.size := ⟨Blk.lt h.me, Blk.lt h.key, h.box.lt⟩
/-- Two blocks of our own beside a key. -/
def CS (w0 : World) (C D : Array Value) (g kb bx : Nat) (W : Nat → Nat) (wr : World) : Prop := Blk wr w0.heap.size C 82 ∧ Blk wr (w0.heap.size + 1) D 82 ∧ KG wr g kb bx W ∧ Own bx w0 wr ∧ KG w0 g kb bx W
def CSH (g kb b1 : Nat) (D : Array Value) (wr : World) : Prop := wr.cell? ⟨g, 0, none⟩ = some (.pointer (some ⟨kb, 0, none⟩)) ∧ Blk wr b1 D 82
theorem CS.held {w0 wr : World} {C D : Array Value} {g kb bx : Nat} {W : Nat → Nat} (h : CS w0 C D g kb bx W wr) : CSH g kb (w0.heap.size + 1) D wr := ⟨h.2.2.1.cell, h.2.1⟩
theorem CS.drew {w0 wr : World} {C D : Array Value} {g kb bx : Nat} {W : Nat → Nat} (h : CS w0 C D g kb bx W wr) : CS w0 C D g kb bx W wr.drew := by
  obtain ⟨h1, h2, h3, h4, h5⟩ := h
  have hb : Below w0.heap.size wr wr.drew := (Below.refl _ _).drew
  exact ⟨h1, h2, h5.low h3 hb, h4.drew, h5⟩
theorem CS.call {w0 wr w1 : World} {C D : Array Value} {g kb bx : Nat} {W : Nat → Nat} (h : CS w0 C D g kb bx W wr) (hB : BoxIn w1 bx) (hO : Own bx wr w1) : CS w0 C D g kb bx W w1 := by
  obtain ⟨h1, h2, h3, h4, h5⟩ := h
  have hl := h5.lt
  exact ⟨hO.blk h1 (by omega), hO.blk h2 (by omega), h3.own hO hB, h4.trans hO, h5⟩
theorem CS.store {w0 wr : World} {C C' D : Array Value} {g kb bx : Nat} {W : Nat → Nat} (h : CS w0 C D g kb bx W wr) (hC : ∃ f, C' = (rowC 16 f).toArray) (hD : ∃ f, C = (rowC 16 f).toArray) : CS w0 C' D g kb bx W (wr.setCells w0.heap.size 0 C'.toList) := by
  obtain ⟨h1, h2, h3, h4, h5⟩ := h
  have hO : Own w0.heap.size wr (wr.setCells w0.heap.size 0 C'.toList) := Own.setCells _ _ _
  have hb : Below w0.heap.size wr (wr.setCells w0.heap.size 0 C'.toList) := hO.below (Nat.le_refl _) h4.size
  exact ⟨Blk.store16 h1 hC hD, hO.blk h2 (by omega), h5.low h3 hb, h4.two hO (Nat.le_refl _), h5⟩
theorem numB4 (n i : Nat) (hi : i < 4) : numB n 4 i = n / 256 ^ (3 - i) % 256 := by unfold numB; rw [show 4 - 1 - i = 3 - i by omega]
set_option maxRecDepth 100000 in
set_option maxHeartbeats 4000000 in
theorem counter_any (g kb bx : Nat) (W nn : Nat → Nat) (n : Nat) (oa : Option Addr) (cap : Nat) (w : World) (hK : KG w g kb bx W) (ha : Bytes w oa 12 nn) (hn : n < 4294967296) :
    Calls Tryz.prog 57 #[.pointer (some ⟨g, 0, none⟩), .slice oa 12 cap, .int .u32 (n : Nat)] w fun e w' => e = .returned (.agg (rowC 16 (cW W nn n)).toArray) ∧ KG w' g kb bx W ∧ Own bx w w' := by
  have hz := zero16_run
  have hnn : ∀ i, i < 12 → nn i < 256 := fun i hi => (ha i hi).1
  obtain ⟨_, b, off, rfl, _⟩ := ha 0 (by decide)
  obtain ⟨wa, hwa⟩ : ∃ x, (w.alloc (.cells zero16 82)).alloc (.cells zero16 82) = x := ⟨_, rfl⟩
  have hba : Below w.heap.size w wa := by rw [← hwa]; exact ((Below.refl _ _).alloc (Nat.le_refl _) _).alloc (by simp) _
  obtain ⟨cs, hcs⟩ : ∃ cs, rowC 12 nn = cs := ⟨_, rfl⟩
  have hcl : cs.length = 12 := by rw [← hcs]; exact rowC_len _ _
  have HG : Hid (wa.heap[w.heap.size + 1]? = some (.cells (rowC 16 (fun _ => 0)).toArray 82 (0, 0))) := Lib.hid (show Blk wa (w.heap.size + 1) zero16 82 by rw [← hwa]; simpa using Blk.new (w.alloc (.cells zero16 82)) zero16 82)
  have HN : Hid (cs.length = Nat.min 12 16) := Lib.hid (by rw [hcl]; rfl)
  have HP : Hid (0 < cs.length → some (Addr.mk (w.heap.size + 1) 0 none) = some (Addr.mk (w.heap.size + 1) 0 none) ∧ ∃ ad, some (Addr.mk b off none) = some ad ∧ ∀ j v, cs[j]? = some v → wa.cell? (ad.add j) = some v) := Lib.hid fun _ => ⟨rfl, _, rfl, fun j v hv => by
    have hj : j < 12 := by
      rcases Nat.lt_or_ge j 12 with h1 | h1
      · exact h1
      · rw [List.getElem?_eq_none (by omega)] at hv; cases hv
    rw [← hcs, rowC_get _ hj] at hv
    cases hv
    obtain ⟨_, b1, o1, e1, hc1⟩ := ha j hj
    cases e1
    have hx : (Addr.mk b off none).add j = ⟨b, off + j, none⟩ := by
      unfold Addr.add; split
      · rename_i hk0; subst hk0; rfl
      · rfl
    rw [hx]
    exact cell_below hba hc1⟩
  have HFi : Hid (0 + cs.length ≤ (rowC 16 (fun _ => 0)).length) := Lib.hid (by rw [hcl, rowC_len]; omega)
  have HC1 : Hid (∀ v ∈ cs, v.oneCell' = true) := Lib.hid (hcs ▸ rowC_one _ _)
  have HBA : Hid (Below (w.heap.size + 1) wa wa) := Lib.hid (Below.refl _ _)
  have HB0 : Hid (Blk wa w.heap.size zero16 82 ∧ KG wa g kb bx W ∧ Below w.heap.size w wa) := Lib.hid ⟨by rw [← hwa]; exact (Blk.new w zero16 82).alloc _, hK.below hba, hba⟩
  have HCS := Lib.hid hcs
  have HCL := Lib.hid hcl
  have HK := Lib.hid hK
  have HNN := Lib.hid hnn
  have z0 : IntKind.u8.wrap ((n : Int) / 16777216) = ((numB n 4 0 : Nat) : Int) := by rw [numB4 _ _ (by decide)]; simp [IntKind.wrap, IntKind.bits, IntKind.signed]
  have z1 : IntKind.u8.wrap ((n : Int) / 65536) = ((numB n 4 1 : Nat) : Int) := by rw [numB4 _ _ (by decide)]; simp [IntKind.wrap, IntKind.bits, IntKind.signed]
  have z2 : IntKind.u8.wrap ((n : Int) / 256) = ((numB n 4 2 : Nat) : Int) := by rw [numB4 _ _ (by decide)]; simp [IntKind.wrap, IntKind.bits, IntKind.signed]
  have z3 : IntKind.u8.wrap (n : Int) = ((numB n 4 3 : Nat) : Int) := by rw [numB4 _ _ (by decide)]; simp [IntKind.wrap, IntKind.bits, IntKind.signed]
  have HF : Hid (∀ w', Blk w' (w.heap.size + 1) (splice (rowC 16 (fun _ => 0)) 0 cs).toArray 82 → B16 ((((w'.setCell ⟨w.heap.size + 1, 12, none⟩ (.int .u8 (numB n 4 0 : Nat))).setCell ⟨w.heap.size + 1, 13, none⟩ (.int .u8 (numB n 4 1 : Nat))).setCell ⟨w.heap.size + 1, 14, none⟩ (.int .u8 (numB n 4 2 : Nat))).setCell ⟨w.heap.size + 1, 15, none⟩ (.int .u8 (numB n 4 3 : Nat))) (w.heap.size + 1) (ctrB nn n)) := Lib.hid fun w' h => by
    rw [← hcs, splice16 _ 12 (by decide)] at h
    refine B16.congr ((((B16.set h 12 _).set 13 _).set 14 _).set 15 _) fun i hi => ?_
    unfold upd ctrB
    by_cases e : i = 15
    · subst e; rfl
    · rw [if_neg e]
      by_cases e : i = 14
      · subst e; rfl
      · rw [if_neg e]
        by_cases e : i = 13
        · subst e; rfl
        · rw [if_neg e]
          by_cases e : i = 12
          · subst e; rfl
          · rw [if_neg e]; show (if i < 12 then nn i else 0) = if i < 12 then nn i else _; rw [if_pos (by omega), if_pos (by omega)]
  have hng := hK.lt
  have HNG := Lib.hid hng
  clear hK ha hcs hcl hba hnn hng
  generalize numB n 4 0 = m0 at *
  generalize numB n 4 1 = m1 at *
  generalize numB n 4 2 = m2 at *
  generalize numB n 4 3 = m3 at *
  go_enter Tryz.func57, Tryz.ntmps57
  go_upto_region 3 with (first | (with_reducible refine wpList_copy_splice rfl (.tmp 8) (.tmp 9) 24 24 rfl 5 Tryz.underlying24 (by kernel_rfl) (some ⟨w.heap.size + 1, 0, none⟩) (some ⟨b, off, none⟩) 16 16 12 cap rfl rfl (w.heap.size + 1) 0 (rowC 16 (fun _ => 0)) 82 ?_ cs ?_ ?_ ?_ HC1.out (w.heap.size + 1) wa ?_ (Nat.le_refl _) ?_; exact HG.out; exact HN.out; exact HP.out; exact HFi.out; exact HBA.out; intro w4 HG4 HB4; have HB5 := Lib.hid HB4; clear HB4 HG HP HBA HN HFi HC1; rw [HCL.out]))
  have hs4 : Blk w4 (w.heap.size + 1) (rowC 16 (fun i => if i < 12 then nn i else 0)).toArray 82 := by
    have := HG4.out
    rw [← HCS.out, splice16 _ 12 (by decide)] at this; exact this
  have hcell : ∀ i, 12 ≤ i → i < 16 → w4.cell? ⟨w.heap.size + 1, i, none⟩ = some (.int .u8 0) := fun i h1 h2 => by
    rw [Blk.cell hs4 i, List.getElem?_toArray, rowC_get _ h2, if_neg (by omega)]; rfl
  have c12 := hcell 12 (by decide) (by decide)
  have c13 := hcell 13 (by decide) (by decide)
  have c14 := hcell 14 (by decide) (by decide)
  have c15 := hcell 15 (by decide) (by decide)
  have f12 : w4.frozen? ⟨w.heap.size + 1, 12, none⟩ = false := Blk.free hs4 _
  have f13 : w4.frozen? ⟨w.heap.size + 1, 13, none⟩ = false := Blk.free hs4 _
  have f14 : w4.frozen? ⟨w.heap.size + 1, 14, none⟩ = false := Blk.free hs4 _
  have f15 : w4.frozen? ⟨w.heap.size + 1, 15, none⟩ = false := Blk.free hs4 _
  have HQ := Lib.hid (HF.out w4 HG4.out)
  clear hcell hs4 HG4 HF
  go_upto_region 4 with fail
  have hZ5 : CS w zero16 (rowC 16 (ctrB nn n)).toArray g kb bx W ((((w4.setCell ⟨w.heap.size + 1, 12, none⟩ (.int .u8 (m0 : Nat))).setCell ⟨w.heap.size + 1, 13, none⟩ (.int .u8 (m1 : Nat))).setCell ⟨w.heap.size + 1, 14, none⟩ (.int .u8 (m2 : Nat))).setCell ⟨w.heap.size + 1, 15, none⟩ (.int .u8 (m3 : Nat))) := by
    obtain ⟨h1, h2, h3⟩ := HB0.out
    have hO : Own (w.heap.size + 1) w4 ((((w4.setCell ⟨w.heap.size + 1, 12, none⟩ (.int .u8 (m0 : Nat))).setCell ⟨w.heap.size + 1, 13, none⟩ (.int .u8 (m1 : Nat))).setCell ⟨w.heap.size + 1, 14, none⟩ (.int .u8 (m2 : Nat))).setCell ⟨w.heap.size + 1, 15, none⟩ (.int .u8 (m3 : Nat))) := ((((Own.refl _ _).set _ _).set _ _).set _ _).set _ _
    have hb4 : Below (w.heap.size + 1) wa w4 := HB5.out
    have hb6 : Below (w.heap.size + 1) wa ((((w4.setCell ⟨w.heap.size + 1, 12, none⟩ (.int .u8 (m0 : Nat))).setCell ⟨w.heap.size + 1, 13, none⟩ (.int .u8 (m1 : Nat))).setCell ⟨w.heap.size + 1, 14, none⟩ (.int .u8 (m2 : Nat))).setCell ⟨w.heap.size + 1, 15, none⟩ (.int .u8 (m3 : Nat))) := hb4.trans (hO.below (Nat.le_refl _) (by have := hb4.size; have := Blk.lt h1; have hws : wa.heap.size = w.heap.size + 2 := (by rw [← hwa]; simp); omega))
    have hb7 := h3.trans (hb6.mono (Nat.le_succ _))
    exact ⟨Blk.below h1 hb6 (Nat.lt_succ_self _), HQ.out, HK.out.low h2 (hb6.mono (Nat.le_succ _)), Own.of_below hb7, HK.out⟩
  generalize (((w4.setCell ⟨w.heap.size + 1, 12, none⟩ (.int .u8 (m0 : Nat))).setCell ⟨w.heap.size + 1, 13, none⟩ (.int .u8 (m1 : Nat))).setCell ⟨w.heap.size + 1, 14, none⟩ (.int .u8 (m2 : Nat))).setCell ⟨w.heap.size + 1, 15, none⟩ (.int .u8 (m3 : Nat)) = W0 at *
  have hC_0 := hZ5.drew
  obtain ⟨X, hX⟩ : ∃ q, (rowC 16 (ctrB nn n)).toArray = q := ⟨_, rfl⟩
  obtain ⟨Y, hY⟩ : ∃ q, (rowC 16 (cW W nn n)).toArray = q := ⟨_, rfl⟩
  rw [hX] at hC_0
  have hH_0 := hC_0.held
  have HENC : Hid (∀ w', CS w zero16 X g kb bx W w' → Calls Tryz.prog 55 #[.pointer (some ⟨kb, 0, none⟩), .agg X] w' fun e w'' => e = .returned (.agg Y) ∧ BoxIn w'' bx ∧ Own bx w' w'') := Lib.hid fun w' hc => by
    rw [← hX, ← hY]
    exact enc_any kb bx W (ctrB nn n) w' hc.2.2.1.key hc.2.2.1.box hc.2.2.1.kne (ctrB_lt HNN.out)
  have HIX : Hid ((Tryz.prog.info? 82).map (·.size) = some X.size) := Lib.hid (hX ▸ info16 _)
  have HIY : Hid ((Tryz.prog.info? 82).map (·.size) = some Y.size) := Lib.hid (hY ▸ info16 _)
  have HYC : Hid (∃ f, Y = (rowC 16 f).toArray) := Lib.hid ⟨_, hY.symm⟩
  have HZC : Hid (∃ f, zero16 = (rowC 16 f).toArray) := Lib.hid ⟨_, rfl⟩
  have HYE := Lib.hid hY
  clear hX hY hZ5 c12 c13 c14 c15 f12 f13 f14 f15 HB5 HQ hwa HB0 z0 z1 z2 z3
  refine wp_region_held_drew (S := (CSH g kb (w.heap.size + 1) X)) (by kernel_rfl) ?_ (fun hHeld => ?_)
  · (try dsimp only)
    first | assumption
  generalize W0.drew = W5 at *
  refine wpAnyH_take (i := 0) (oi := { dst := some 26, op := Go.Op.move (Go.Operand.tmp 0), type := 54, pos := "gcm.go:41", after := #[], guard := none }) (v := ?_) rfl (by kernel_rfl) (by kernel_rfl) (by kernel_rfl) (fun _ _ _ h => h) (Or.inl ⟨by rfl, ?_⟩) (by assumption) ?_
  rotate_left
  · intro wS hSw
    (try dsimp only at hSw)
    go_simp
    (try with_reducible rfl)
  (try simp only [Act.put, List.setIfInBounds_toArray, List.set_cons_zero, List.set_cons_succ])
  refine wpAnyH_take (i := 1) (oi := { dst := some 27, op := Go.Op.nilCheck (Go.Operand.tmp 26), type := 0, pos := "gcm.go:41", after := #[{ on := 0, ground := Go.Ground.data }], guard := none }) (v := ?_) rfl (by kernel_rfl) (by kernel_rfl) (by kernel_rfl) (fun _ _ _ h => h) (Or.inl ⟨by rfl, ?_⟩) (by assumption) ?_
  rotate_left
  · intro wS hSw
    (try dsimp only at hSw)
    go_simp
    (try with_reducible rfl)
  (try simp only [Act.put, List.setIfInBounds_toArray, List.set_cons_zero, List.set_cons_succ])
  refine wpAnyH_take (i := 2) (oi := { dst := some 28, op := Go.Op.fieldAddr 116 (Go.Operand.tmp 27) 0, type := 0, pos := "gcm.go:41", after := #[{ on := 1, ground := Go.Ground.data }], guard := none }) (v := ?_) rfl (by kernel_rfl) (by kernel_rfl) (by kernel_rfl) (fun _ _ _ h => h) (Or.inl ⟨by rfl, ?_⟩) (by assumption) ?_
  rotate_left
  · intro wS hSw
    (try dsimp only at hSw)
    go_simp
    (try with_reducible rfl)
  (try simp only [Act.put, List.setIfInBounds_toArray, List.set_cons_zero, List.set_cons_succ])
  refine wpAnyH_take (i := 3) (oi := { dst := some 29, op := Go.Op.load 111 (Go.Operand.tmp 28), type := 111, pos := "gcm.go:41", after := #[{ on := 2, ground := Go.Ground.data }], guard := none }) (v := ?_) rfl (by kernel_rfl) (by kernel_rfl) (by kernel_rfl) (fun _ _ _ h => h) (Or.inl ⟨by rfl, ?_⟩) (by assumption) ?_
  rotate_left
  · intro wS hSw
    (have c9 := hSw.1; go_simp; (try with_reducible rfl))
  (try simp only [Act.put, List.setIfInBounds_toArray, List.set_cons_zero, List.set_cons_succ])
  refine wpAnyH_take (i := 4) (oi := { dst := some 30, op := Go.Op.load 82 (Go.Operand.tmp 7), type := 82, pos := "gcm.go:41", after := #[], guard := none }) (v := ?_) rfl (by kernel_rfl) (by kernel_rfl) (by kernel_rfl) (fun _ _ _ h => h) (Or.inl ⟨by rfl, ?_⟩) (by assumption) ?_
  rotate_left
  · intro wS hSw
    refine exec_load16 (x := .tmp 7) ?_ ?_ (ld16 hSw.2 HIX.out) <;> rfl
  (try simp only [Act.put, List.setIfInBounds_toArray, List.set_cons_zero, List.set_cons_succ])
  refine wpAnyH_ready (rs := [5]) (by kernel_rfl) (by simp) ?_
  refine AllReadyH.cons (o := { dst := some 31, op := Go.Op.call { callee := Go.Callee.value (Go.Operand.func 55), args := #[Go.Operand.tmp 29, Go.Operand.tmp 30], argTypes := #[111, 82] }, type := 82, pos := "gcm.go:41", after := #[{ on := 3, ground := Go.Ground.data }, { on := 4, ground := Go.Ground.data }], guard := none }) rfl (fun K hK => ?_) AllReadyH.nil
  go_simp
  (refine (HENC.out _ hC_0).mono ?_; rintro e v1 ⟨rfl, hb1, hO1⟩; have hC_1 := hC_0.call hb1 hO1; have hH_1 := hC_1.held; clear hC_0 hH_0 hb1 hO1; skip)
  (try go_wp2_with fail)
  refine hK.out _ _ ?_ (fun hHeld => ?_)
  · (try dsimp only)
    first | assumption
  clear hK K
  (try simp only [Act.put, List.setIfInBounds_toArray, List.set_cons_zero, List.set_cons_succ])
  refine wpAnyH_ready (rs := [6]) (by kernel_rfl) (by simp) ?_
  refine AllReadyH.cons (o := { dst := none, op := Go.Op.store 82 (Go.Operand.tmp 6) (Go.Operand.tmp 31), type := 0, pos := "gcm.go:41", after := #[{ on := 5, ground := Go.Ground.data }, { on := 5, ground := Go.Ground.chain }, { on := 0, ground := Go.Ground.phase }, { on := 1, ground := Go.Ground.phase }, { on := 2, ground := Go.Ground.phase }, { on := 3, ground := Go.Ground.phase }, { on := 4, ground := Go.Ground.phase }, { on := 5, ground := Go.Ground.phase }], guard := none }) rfl (fun K hK => ?_) AllReadyH.nil
  (refine step_store16 rfl (.tmp 6) (.tmp 31) rfl w.heap.size rfl Y zero16 rfl hC_1.1 HYC.out HZC.out ?_; have hC_2 := hC_1.store HYC.out HZC.out; have hH_2 := hC_2.held; clear hC_1 hH_1; generalize v1.setCells w.heap.size 0 Y.toList = v2 at *; skip)
  refine hK.out _ _ ?_ (fun hHeld => ?_)
  · (try dsimp only)
    first | assumption
  clear hK K
  (try simp only [Act.put, List.setIfInBounds_toArray, List.set_cons_zero, List.set_cons_succ])
  refine wpAnyH_done (by kernel_rfl) ?_ _
  have HC2 := Lib.hid hC_2
  clear hC_2 hH_2
  go_wp2_with fail
  refine bodyPost_ret (v := .agg Y) ?_ rfl ⟨by rw [HYE.out], HC2.out.2.2.1, HC2.out.2.2.2.1⟩
  exact results_cell_row Tryz.results57 _ _ w.heap.size 82 Y (0, 0) _ rfl HC2.out.1 Tryz.underlying82 rfl HIY.out
end Go.Proofs.YtncfocjmdecapaaGreatDoor
