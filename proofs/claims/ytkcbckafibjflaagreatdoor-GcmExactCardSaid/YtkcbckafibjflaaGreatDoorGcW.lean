/- GCM in plain mathematics. GCM: a key; a nonce's counter block, ciphered. GCM: a key, made; a tag. GCM: bytes, block by block. GCM: what a round keeps. -/
import Derived.Test.YtkcbckafibjflaaGreatDoorAe5
import Derived.Test.YtkcbckafibjflaaGreatDoorGhB
import Derived.Test.YtkcbckafibjflaaGreatDoorGen
import Derived.Deep.RegionHeld3
import Derived.Deep.DeepCutAuto
import Derived.Laws.CopyOwn
import Derived.Deep.MidRow
import Derived.Test.YtkcbckafibjflaaGreatDoorRf
import Derived.LoopNIn
import Derived.LoopIn
import Derived.Test.YtkcbckafibjflaaGreatDoorApo
namespace Go.Proofs.YtkcbckafibjflaaGreatDoor
set_option linter.unusedVariables false
set_option linter.unusedSimpArgs false
open Go.RowKit

/-- A nonce's counter block. -/
def ctrB (nn : Nat → Nat) (c : Nat) : Nat → Nat := fun i => if i < 12 then nn i else numB c 4 (i - 12)
theorem ctrB_lt {nn : Nat → Nat} {c : Nat} (hn : ∀ i, i < 12 → nn i < 256) : ∀ i, i < 16 → ctrB nn c i < 256 := fun i _ => by
  unfold ctrB; split
  · exact hn i (by assumption)
  · exact numB_lt _ _ _
/-- It, ciphered. -/
def cW (W nn : Nat → Nat) (c : Nat) : Nat → Nat := encK subN W (ctrB nn c) 14
theorem cW_lt {W nn : Nat → Nat} {c : Nat} (hn : ∀ i, i < 12 → nn i < 256) : ∀ i, i < 16 → cW W nn c i < 256 := fun i hi => encK_lt subN_lt (ctrB_lt hn) 14 i hi
theorem xor_lt256 {a b : Nat} (ha : a < 256) (hb : b < 256) : a ^^^ b < 256 := Nat.xor_lt_two_pow (n := 8) ha hb
/-- Bytes, ciphered. -/
def cphF (W nn p : Nat → Nat) : Nat → Nat := fun i => p i ^^^ cW W nn (2 + i / 16) (i % 16)
theorem cphF_lt {W nn p : Nat → Nat} {n : Nat} (hn : ∀ i, i < 12 → nn i < 256) (hp : ∀ i, i < n → p i < 256) : ∀ i, i < n → cphF W nn p i < 256 := fun i hi => xor_lt256 (hp i hi) (cW_lt hn _ (Nat.mod_lt _ (by decide)))
theorem cphF_back (W nn p : Nat → Nat) (i : Nat) : cphF W nn (cphF W nn p) i = p i := by
  unfold cphF; rw [Nat.xor_assoc, Nat.xor_self, Nat.xor_zero]
theorem cphF_congr {W nn p q : Nat → Nat} {i : Nat} (h : p i = q i) : cphF W nn p i = cphF W nn q i := by unfold cphF; rw [h]
/-- The block of noughts, ciphered. -/
def h0F (W : Nat → Nat) : Nat → Nat := encK subN W (fun _ => 0) 14
theorem h0F_lt (W : Nat → Nat) : ∀ i, i < 16 → h0F W i < 256 := fun i hi => encK_lt subN_lt (fun _ _ => Nat.zero_lt_succ _) 14 i hi
/-- The tag of ciphered bytes, and of the bytes beside. -/
def tgF (W nn a : Nat → Nat) (an : Nat) (c : Nat → Nat) (cn : Nat) : Nat → Nat := addF (hashF (h0F W) a an c cn) (cW W nn 1)
theorem tgF_lt {W nn a c : Nat → Nat} {an cn : Nat} (hn : ∀ i, i < 12 → nn i < 256) : ∀ i, i < 16 → tgF W nn a an c cn i < 256 := fun i hi => xor_lt256 (mulF_lt _ _ _) (cW_lt hn i hi)
theorem thrF_congr {h f g : Nat → Nat} {n : Nat} (s : Nat → Nat) (hfg : ∀ i, i < n → f i = g i) : ∀ k, thrF h f n s k = thrF h g n s k
  | 0 => rfl
  | k + 1 => by
    show mulF (addF (thrF h f n s k) (chF f n k)) h = mulF (addF (thrF h g n s k) (chF g n k)) h
    rw [thrF_congr s hfg k]
    congr 2
    funext i
    unfold chF
    split
    · exact hfg _ (by assumption)
    · rfl
theorem tgF_congr {W nn a c d : Nat → Nat} {an cn : Nat} (h : ∀ i, i < cn → c i = d i) : tgF W nn a an c cn = tgF W nn a an d cn := by
  unfold tgF hashF twoF
  rw [thrF_congr _ h]
/-- Bytes, sealed. -/
def boxF (W nn p : Nat → Nat) (n : Nat) (a : Nat → Nat) (an : Nat) : Nat → Nat := catF n (cphF W nn p) (tgF W nn a an (cphF W nn p) n)
theorem boxF_lt {W nn p a : Nat → Nat} {n an : Nat} (hn : ∀ i, i < 12 → nn i < 256) (hp : ∀ i, i < n → p i < 256) : ∀ i, i < n + 16 → boxF W nn p n a an i < 256 := catF_b (cphF_lt hn hp) (tgF_lt hn)
end Go.Proofs.YtkcbckafibjflaaGreatDoor
namespace Go.Proofs.YtkcbckafibjflaaGreatDoor
set_option linter.unusedVariables false
set_option linter.unusedSimpArgs false
set_option linter.unusedVariables false
set_option linter.unusedSimpArgs false
open Go.RowKit

/-- A key, as memory has it: where the cipher's own lies, and the block of noughts, ciphered. -/
def gkC (kb : Nat) (H : Nat → Nat) : List Value := .pointer (some ⟨kb, 0, none⟩) :: rowC 16 H
structure KG (w : World) (g kb bx : Nat) (W : Nat → Nat) : Prop where
  me : Blk w g (gkC kb (h0F W)).toArray 58
  key : KeyB w kb W bx
  box : BoxIn w bx
  gne : g ≠ bx
  kne : kb ≠ bx
theorem KG.own {w w' : World} {g kb bx : Nat} {W : Nat → Nat} (h : KG w g kb bx W) (hO : Own bx w w') (hB : BoxIn w' bx) : KG w' g kb bx W :=
  ⟨hO.blk h.me h.gne, hO.blk h.key h.kne, hB, h.gne, h.kne⟩
theorem KG.below {w w' : World} {g kb bx : Nat} {W : Nat → Nat} (h : KG w g kb bx W) (hb : Below w.heap.size w w') : KG w' g kb bx W :=
  h.own (Own.of_below hb) (h.box.below hb)
theorem KG.low {w0 w w' : World} {g kb bx : Nat} {W : Nat → Nat} (h0 : KG w0 g kb bx W) (h : KG w g kb bx W) (hb : Below w0.heap.size w w') : KG w' g kb bx W :=
  ⟨Blk.below h.me hb (Blk.lt h0.me), Blk.below h.key hb (Blk.lt h0.key), by
    rcases h.box with t | t
    · exact Or.inl ⟨Blk.below t.1 hb (h0.box.lt), t.2⟩
    · exact Or.inr ⟨Blk.below t.1 hb (h0.box.lt), t.2⟩, h.gne, h.kne⟩
theorem KG.cell {w : World} {g kb bx : Nat} {W : Nat → Nat} (h : KG w g kb bx W) : w.cell? ⟨g, 0, none⟩ = some (.pointer (some ⟨kb, 0, none⟩)) := by
  rw [Blk.cell h.me]; rfl
theorem KG.lt {w : World} {g kb bx : Nat} {W : Nat → Nat} (h : KG w g kb bx W) : g < w.heap.size ∧ kb < w.heap.size ∧ bx < w.heap.size := ⟨Blk.lt h.me, Blk.lt h.key, h.box.lt⟩
/-- Two blocks of our own beside a key. -/
def CS (w0 : World) (C D : Array Value) (g kb bx : Nat) (W : Nat → Nat) (wr : World) : Prop := Blk wr w0.heap.size C 49 ∧ Blk wr (w0.heap.size + 1) D 49 ∧ KG wr g kb bx W ∧ Own bx w0 wr ∧ KG w0 g kb bx W
def CSH (g kb b1 : Nat) (D : Array Value) (wr : World) : Prop := wr.cell? ⟨g, 0, none⟩ = some (.pointer (some ⟨kb, 0, none⟩)) ∧ Blk wr b1 D 49
theorem CS.held {w0 wr : World} {C D : Array Value} {g kb bx : Nat} {W : Nat → Nat} (h : CS w0 C D g kb bx W wr) : CSH g kb (w0.heap.size + 1) D wr := ⟨h.2.2.1.cell, h.2.1⟩
theorem CS.drew {w0 wr : World} {C D : Array Value} {g kb bx : Nat} {W : Nat → Nat} (h : CS w0 C D g kb bx W wr) : CS w0 C D g kb bx W wr.drew := by
  obtain ⟨h1, h2, h3, h4, h5⟩ := h
  have hb : Below w0.heap.size wr wr.drew := (Below.refl _ _).drew
  exact ⟨h1, h2, h5.low h3 hb, h4.drew, h5⟩
theorem CS.call {w0 wr w1 : World} {C D : Array Value} {g kb bx : Nat} {W : Nat → Nat} (h : CS w0 C D g kb bx W wr) (hB : BoxIn w1 bx) (hO : Own bx wr w1) : CS w0 C D g kb bx W w1 := by
  obtain ⟨h1, h2, h3, h4, h5⟩ := h
  have hl := h5.lt
  exact ⟨hO.blk h1 (by omega), hO.blk h2 (by omega), h3.own hO hB, h4.trans hO, h5⟩
theorem CS.store {w0 wr : World} {C C' D : Array Value} {g kb bx : Nat} {W : Nat → Nat} (h : CS w0 C D g kb bx W wr) (hC : ∃ f, C' = (rowC 16 f).toArray) (hD : ∃ f, C = (rowC 16 f).toArray) : CS w0 C' D g kb bx W (wr.setCells w0.heap.size 0 C'.toList) := by
  obtain ⟨h1, h2, h3, h4, h5⟩ := h
  have hO : Own w0.heap.size wr (wr.setCells w0.heap.size 0 C'.toList) := Own.setCells _ _ _
  have hb : Below w0.heap.size wr (wr.setCells w0.heap.size 0 C'.toList) := hO.below (Nat.le_refl _) h4.size
  exact ⟨Blk.store16 h1 hC hD, hO.blk h2 (by omega), h5.low h3 hb, h4.two hO (Nat.le_refl _), h5⟩
theorem numB4 (n i : Nat) (hi : i < 4) : numB n 4 i = n / 256 ^ (3 - i) % 256 := by unfold numB; rw [show 4 - 1 - i = 3 - i by omega]
set_option maxRecDepth 100000 in
set_option maxHeartbeats 4000000 in
theorem counter_any (g kb bx : Nat) (W nn : Nat → Nat) (n : Nat) (oa : Option Addr) (cap : Nat) (w : World) (hK : KG w g kb bx W) (ha : Bytes w oa 12 nn) (hn : n < 4294967296) :
    Calls Tryz.prog 23 #[.pointer (some ⟨g, 0, none⟩), .slice oa 12 cap, .int .u32 (n : Nat)] w fun e w' => e = .returned (.agg (rowC 16 (cW W nn n)).toArray) ∧ KG w' g kb bx W ∧ Own bx w w' := by
  have hz := zero16_run
  have hnn : ∀ i, i < 12 → nn i < 256 := fun i hi => (ha i hi).1
  obtain ⟨_, b, off, rfl, _⟩ := ha 0 (by decide)
  obtain ⟨wa, hwa⟩ : ∃ x, (w.alloc (.cells zero16 49)).alloc (.cells zero16 49) = x := ⟨_, rfl⟩
  have hba : Below w.heap.size w wa := by rw [← hwa]; exact ((Below.refl _ _).alloc (Nat.le_refl _) _).alloc (by simp) _
  obtain ⟨cs, hcs⟩ : ∃ cs, rowC 12 nn = cs := ⟨_, rfl⟩
  have hcl : cs.length = 12 := by rw [← hcs]; exact rowC_len _ _
  have HG : Hid (wa.heap[w.heap.size + 1]? = some (.cells (rowC 16 (fun _ => 0)).toArray 49 (0, 0))) := Lib.hid (show Blk wa (w.heap.size + 1) zero16 49 by rw [← hwa]; simpa using Blk.new (w.alloc (.cells zero16 49)) zero16 49)
  have HN : Hid (cs.length = Nat.min 12 16) := Lib.hid (by rw [hcl]; rfl)
  have HP : Hid (0 < cs.length → some (Addr.mk (w.heap.size + 1) 0 none) = some (Addr.mk (w.heap.size + 1) 0 none) ∧ ∃ ad, some (Addr.mk b off none) = some ad ∧ ∀ j v, cs[j]? = some v → wa.cell? (ad.add j) = some v) := Lib.hid fun _ => ⟨rfl, _, rfl, fun j v hv => by
    have hj : j < 12 := by
      rcases Nat.lt_or_ge j 12 with h1 | h1
      · exact h1
      · rw [List.getElem?_eq_none (by omega)] at hv; cases hv
    rw [← hcs, rowC_get _ hj] at hv
    cases hv
    obtain ⟨_, b1, o1, e1, hc1⟩ := ha j hj
    cases e1
    have hx : (Addr.mk b off none).add j = ⟨b, off + j, none⟩ := by
      unfold Addr.add; split
      · rename_i hk0; subst hk0; rfl
      · rfl
    rw [hx]
    exact cell_below hba hc1⟩
  have HFi : Hid (0 + cs.length ≤ (rowC 16 (fun _ => 0)).length) := Lib.hid (by rw [hcl, rowC_len]; omega)
  have HC1 : Hid (∀ v ∈ cs, v.oneCell' = true) := Lib.hid (hcs ▸ rowC_one _ _)
  have HBA : Hid (Below (w.heap.size + 1) wa wa) := Lib.hid (Below.refl _ _)
  have HB0 : Hid (Blk wa w.heap.size zero16 49 ∧ KG wa g kb bx W ∧ Below w.heap.size w wa) := Lib.hid ⟨by rw [← hwa]; exact (Blk.new w zero16 49).alloc _, hK.below hba, hba⟩
  have HCS := Lib.hid hcs
  have HCL := Lib.hid hcl
  have HK := Lib.hid hK
  have HNN := Lib.hid hnn
  have z0 : IntKind.u8.wrap ((n : Int) / 16777216) = ((numB n 4 0 : Nat) : Int) := by rw [numB4 _ _ (by decide)]; simp [IntKind.wrap, IntKind.bits, IntKind.signed]
  have z1 : IntKind.u8.wrap ((n : Int) / 65536) = ((numB n 4 1 : Nat) : Int) := by rw [numB4 _ _ (by decide)]; simp [IntKind.wrap, IntKind.bits, IntKind.signed]
  have z2 : IntKind.u8.wrap ((n : Int) / 256) = ((numB n 4 2 : Nat) : Int) := by rw [numB4 _ _ (by decide)]; simp [IntKind.wrap, IntKind.bits, IntKind.signed]
  have z3 : IntKind.u8.wrap (n : Int) = ((numB n 4 3 : Nat) : Int) := by rw [numB4 _ _ (by decide)]; simp [IntKind.wrap, IntKind.bits, IntKind.signed]
  have HF : Hid (∀ w', Blk w' (w.heap.size + 1) (splice (rowC 16 (fun _ => 0)) 0 cs).toArray 49 → B16 ((((w'.setCell ⟨w.heap.size + 1, 12, none⟩ (.int .u8 (numB n 4 0 : Nat))).setCell ⟨w.heap.size + 1, 13, none⟩ (.int .u8 (numB n 4 1 : Nat))).setCell ⟨w.heap.size + 1, 14, none⟩ (.int .u8 (numB n 4 2 : Nat))).setCell ⟨w.heap.size + 1, 15, none⟩ (.int .u8 (numB n 4 3 : Nat))) (w.heap.size + 1) (ctrB nn n)) := Lib.hid fun w' h => by
    rw [← hcs, splice16 _ 12 (by decide)] at h
    refine B16.congr ((((B16.set h 12 _).set 13 _).set 14 _).set 15 _) fun i hi => ?_
    unfold upd ctrB
    by_cases e : i = 15
    · subst e; rfl
    · rw [if_neg e]
      by_cases e : i = 14
      · subst e; rfl
      · rw [if_neg e]
        by_cases e : i = 13
        · subst e; rfl
        · rw [if_neg e]
          by_cases e : i = 12
          · subst e; rfl
          · rw [if_neg e]; show (if i < 12 then nn i else 0) = if i < 12 then nn i else _; rw [if_pos (by omega), if_pos (by omega)]
  have hng := hK.lt
  have HNG := Lib.hid hng
  clear hK ha hcs hcl hba hnn hng
  generalize numB n 4 0 = m0 at *
  generalize numB n 4 1 = m1 at *
  generalize numB n 4 2 = m2 at *
  generalize numB n 4 3 = m3 at *
  go_enter Tryz.func23, Tryz.ntmps23
  go_upto_region 3 with (first | (with_reducible refine wpList_copy_splice rfl (.tmp 8) (.tmp 9) 22 22 rfl 5 Tryz.underlying22 (by kernel_rfl) (some ⟨w.heap.size + 1, 0, none⟩) (some ⟨b, off, none⟩) 16 16 12 cap rfl rfl (w.heap.size + 1) 0 (rowC 16 (fun _ => 0)) 49 ?_ cs ?_ ?_ ?_ HC1.out (w.heap.size + 1) wa ?_ (Nat.le_refl _) ?_; exact HG.out; exact HN.out; exact HP.out; exact HFi.out; exact HBA.out; intro w4 HG4 HB4; have HB5 := Lib.hid HB4; clear HB4 HG HP HBA HN HFi HC1; rw [HCL.out]))
  have hs4 : Blk w4 (w.heap.size + 1) (rowC 16 (fun i => if i < 12 then nn i else 0)).toArray 49 := by
    have := HG4.out
    rw [← HCS.out, splice16 _ 12 (by decide)] at this; exact this
  have hcell : ∀ i, 12 ≤ i → i < 16 → w4.cell? ⟨w.heap.size + 1, i, none⟩ = some (.int .u8 0) := fun i h1 h2 => by
    rw [Blk.cell hs4 i, List.getElem?_toArray, rowC_get _ h2, if_neg (by omega)]; rfl
  have c12 := hcell 12 (by decide) (by decide)
  have c13 := hcell 13 (by decide) (by decide)
  have c14 := hcell 14 (by decide) (by decide)
  have c15 := hcell 15 (by decide) (by decide)
  have f12 : w4.frozen? ⟨w.heap.size + 1, 12, none⟩ = false := Blk.free hs4 _
  have f13 : w4.frozen? ⟨w.heap.size + 1, 13, none⟩ = false := Blk.free hs4 _
  have f14 : w4.frozen? ⟨w.heap.size + 1, 14, none⟩ = false := Blk.free hs4 _
  have f15 : w4.frozen? ⟨w.heap.size + 1, 15, none⟩ = false := Blk.free hs4 _
  have HQ := Lib.hid (HF.out w4 HG4.out)
  clear hcell hs4 HG4 HF
  go_upto_region 4 with fail
  have hZ5 : CS w zero16 (rowC 16 (ctrB nn n)).toArray g kb bx W ((((w4.setCell ⟨w.heap.size + 1, 12, none⟩ (.int .u8 (m0 : Nat))).setCell ⟨w.heap.size + 1, 13, none⟩ (.int .u8 (m1 : Nat))).setCell ⟨w.heap.size + 1, 14, none⟩ (.int .u8 (m2 : Nat))).setCell ⟨w.heap.size + 1, 15, none⟩ (.int .u8 (m3 : Nat))) := by
    obtain ⟨h1, h2, h3⟩ := HB0.out
    have hO : Own (w.heap.size + 1) w4 ((((w4.setCell ⟨w.heap.size + 1, 12, none⟩ (.int .u8 (m0 : Nat))).setCell ⟨w.heap.size + 1, 13, none⟩ (.int .u8 (m1 : Nat))).setCell ⟨w.heap.size + 1, 14, none⟩ (.int .u8 (m2 : Nat))).setCell ⟨w.heap.size + 1, 15, none⟩ (.int .u8 (m3 : Nat))) := ((((Own.refl _ _).set _ _).set _ _).set _ _).set _ _
    have hb4 : Below (w.heap.size + 1) wa w4 := HB5.out
    have hb6 : Below (w.heap.size + 1) wa ((((w4.setCell ⟨w.heap.size + 1, 12, none⟩ (.int .u8 (m0 : Nat))).setCell ⟨w.heap.size + 1, 13, none⟩ (.int .u8 (m1 : Nat))).setCell ⟨w.heap.size + 1, 14, none⟩ (.int .u8 (m2 : Nat))).setCell ⟨w.heap.size + 1, 15, none⟩ (.int .u8 (m3 : Nat))) := hb4.trans (hO.below (Nat.le_refl _) (by have := hb4.size; have := Blk.lt h1; have hws : wa.heap.size = w.heap.size + 2 := (by rw [← hwa]; simp); omega))
    have hb7 := h3.trans (hb6.mono (Nat.le_succ _))
    exact ⟨Blk.below h1 hb6 (Nat.lt_succ_self _), HQ.out, HK.out.low h2 (hb6.mono (Nat.le_succ _)), Own.of_below hb7, HK.out⟩
  generalize (((w4.setCell ⟨w.heap.size + 1, 12, none⟩ (.int .u8 (m0 : Nat))).setCell ⟨w.heap.size + 1, 13, none⟩ (.int .u8 (m1 : Nat))).setCell ⟨w.heap.size + 1, 14, none⟩ (.int .u8 (m2 : Nat))).setCell ⟨w.heap.size + 1, 15, none⟩ (.int .u8 (m3 : Nat)) = W0 at *
  have hC_0 := hZ5.drew
  obtain ⟨X, hX⟩ : ∃ q, (rowC 16 (ctrB nn n)).toArray = q := ⟨_, rfl⟩
  obtain ⟨Y, hY⟩ : ∃ q, (rowC 16 (cW W nn n)).toArray = q := ⟨_, rfl⟩
  rw [hX] at hC_0
  have hH_0 := hC_0.held
  have HENC : Hid (∀ w', CS w zero16 X g kb bx W w' → Calls Tryz.prog 17 #[.pointer (some ⟨kb, 0, none⟩), .agg X] w' fun e w'' => e = .returned (.agg Y) ∧ BoxIn w'' bx ∧ Own bx w' w'') := Lib.hid fun w' hc => by
    rw [← hX, ← hY]
    exact enc_any kb bx W (ctrB nn n) w' hc.2.2.1.key hc.2.2.1.box hc.2.2.1.kne (ctrB_lt HNN.out)
  have HIX : Hid ((Tryz.prog.info? 49).map (·.size) = some X.size) := Lib.hid (hX ▸ info16 _)
  have HIY : Hid ((Tryz.prog.info? 49).map (·.size) = some Y.size) := Lib.hid (hY ▸ info16 _)
  have HYC : Hid (∃ f, Y = (rowC 16 f).toArray) := Lib.hid ⟨_, hY.symm⟩
  have HZC : Hid (∃ f, zero16 = (rowC 16 f).toArray) := Lib.hid ⟨_, rfl⟩
  have HYE := Lib.hid hY
  clear hX hY hZ5 c12 c13 c14 c15 f12 f13 f14 f15 HB5 HQ hwa HB0 z0 z1 z2 z3
  refine wp_region_held_drew (S := (CSH g kb (w.heap.size + 1) X)) (by kernel_rfl) ?_ (fun hHeld => ?_)
  · (try dsimp only)
    first | assumption
  generalize W0.drew = W5 at *
  refine wpAnyH_take (i := 0) (oi := { dst := some 26, op := Go.Op.move (Go.Operand.tmp 0), type := 26, pos := "gcm.go:41", after := #[], guard := none }) (v := ?_) rfl (by kernel_rfl) (by kernel_rfl) (by kernel_rfl) (fun _ _ _ h => h) (Or.inl ⟨by rfl, ?_⟩) (by assumption) ?_
  rotate_left
  · intro wS hSw
    (try dsimp only at hSw)
    go_simp
    (try with_reducible rfl)
  (try simp only [Act.put, List.setIfInBounds_toArray, List.set_cons_zero, List.set_cons_succ])
  refine wpAnyH_take (i := 1) (oi := { dst := some 27, op := Go.Op.nilCheck (Go.Operand.tmp 26), type := 0, pos := "gcm.go:41", after := #[{ on := 0, ground := Go.Ground.data }], guard := none }) (v := ?_) rfl (by kernel_rfl) (by kernel_rfl) (by kernel_rfl) (fun _ _ _ h => h) (Or.inl ⟨by rfl, ?_⟩) (by assumption) ?_
  rotate_left
  · intro wS hSw
    (try dsimp only at hSw)
    go_simp
    (try with_reducible rfl)
  (try simp only [Act.put, List.setIfInBounds_toArray, List.set_cons_zero, List.set_cons_succ])
  refine wpAnyH_take (i := 2) (oi := { dst := some 28, op := Go.Op.fieldAddr 58 (Go.Operand.tmp 27) 0, type := 0, pos := "gcm.go:41", after := #[{ on := 1, ground := Go.Ground.data }], guard := none }) (v := ?_) rfl (by kernel_rfl) (by kernel_rfl) (by kernel_rfl) (fun _ _ _ h => h) (Or.inl ⟨by rfl, ?_⟩) (by assumption) ?_
  rotate_left
  · intro wS hSw
    (try dsimp only at hSw)
    go_simp
    (try with_reducible rfl)
  (try simp only [Act.put, List.setIfInBounds_toArray, List.set_cons_zero, List.set_cons_succ])
  refine wpAnyH_take (i := 3) (oi := { dst := some 29, op := Go.Op.load 53 (Go.Operand.tmp 28), type := 53, pos := "gcm.go:41", after := #[{ on := 2, ground := Go.Ground.data }], guard := none }) (v := ?_) rfl (by kernel_rfl) (by kernel_rfl) (by kernel_rfl) (fun _ _ _ h => h) (Or.inl ⟨by rfl, ?_⟩) (by assumption) ?_
  rotate_left
  · intro wS hSw
    (have c9 := hSw.1; go_simp; (try with_reducible rfl))
  (try simp only [Act.put, List.setIfInBounds_toArray, List.set_cons_zero, List.set_cons_succ])
  refine wpAnyH_take (i := 4) (oi := { dst := some 30, op := Go.Op.load 49 (Go.Operand.tmp 7), type := 49, pos := "gcm.go:41", after := #[], guard := none }) (v := ?_) rfl (by kernel_rfl) (by kernel_rfl) (by kernel_rfl) (fun _ _ _ h => h) (Or.inl ⟨by rfl, ?_⟩) (by assumption) ?_
  rotate_left
  · intro wS hSw
    refine exec_load16 (x := .tmp 7) ?_ ?_ (ld16 hSw.2 HIX.out) <;> rfl
  (try simp only [Act.put, List.setIfInBounds_toArray, List.set_cons_zero, List.set_cons_succ])
  refine wpAnyH_ready (rs := [5]) (by kernel_rfl) (by simp) ?_
  refine AllReadyH.cons (o := { dst := some 31, op := Go.Op.call { callee := Go.Callee.value (Go.Operand.func 17), args := #[Go.Operand.tmp 29, Go.Operand.tmp 30], argTypes := #[53, 49] }, type := 49, pos := "gcm.go:41", after := #[{ on := 3, ground := Go.Ground.data }, { on := 4, ground := Go.Ground.data }], guard := none }) rfl (fun K hK => ?_) AllReadyH.nil
  go_simp
  (refine (HENC.out _ hC_0).mono ?_; rintro e v1 ⟨rfl, hb1, hO1⟩; have hC_1 := hC_0.call hb1 hO1; have hH_1 := hC_1.held; clear hC_0 hH_0 hb1 hO1; skip)
  (try go_wp2_with fail)
  refine hK.out _ _ ?_ (fun hHeld => ?_)
  · (try dsimp only)
    first | assumption
  clear hK K
  (try simp only [Act.put, List.setIfInBounds_toArray, List.set_cons_zero, List.set_cons_succ])
  refine wpAnyH_ready (rs := [6]) (by kernel_rfl) (by simp) ?_
  refine AllReadyH.cons (o := { dst := none, op := Go.Op.store 49 (Go.Operand.tmp 6) (Go.Operand.tmp 31), type := 0, pos := "gcm.go:41", after := #[{ on := 5, ground := Go.Ground.data }, { on := 5, ground := Go.Ground.chain }, { on := 0, ground := Go.Ground.phase }, { on := 1, ground := Go.Ground.phase }, { on := 2, ground := Go.Ground.phase }, { on := 3, ground := Go.Ground.phase }, { on := 4, ground := Go.Ground.phase }, { on := 5, ground := Go.Ground.phase }], guard := none }) rfl (fun K hK => ?_) AllReadyH.nil
  (refine step_store16 rfl (.tmp 6) (.tmp 31) rfl w.heap.size rfl Y zero16 rfl hC_1.1 HYC.out HZC.out ?_; have hC_2 := hC_1.store HYC.out HZC.out; have hH_2 := hC_2.held; clear hC_1 hH_1; generalize v1.setCells w.heap.size 0 Y.toList = v2 at *; skip)
  refine hK.out _ _ ?_ (fun hHeld => ?_)
  · (try dsimp only)
    first | assumption
  clear hK K
  (try simp only [Act.put, List.setIfInBounds_toArray, List.set_cons_zero, List.set_cons_succ])
  refine wpAnyH_done (by kernel_rfl) ?_ _
  have HC2 := Lib.hid hC_2
  clear hC_2 hH_2
  go_wp2_with fail
  refine bodyPost_ret (v := .agg Y) ?_ rfl ⟨by rw [HYE.out], HC2.out.2.2.1, HC2.out.2.2.2.1⟩
  exact results_cell_row Tryz.results23 _ _ w.heap.size 49 Y (0, 0) _ rfl HC2.out.1 Tryz.underlying49 rfl HIY.out
end Go.Proofs.YtkcbckafibjflaaGreatDoor
namespace Go.Proofs.YtkcbckafibjflaaGreatDoor
set_option linter.unusedVariables false
set_option linter.unusedSimpArgs false
set_option linter.unusedVariables false
set_option linter.unusedSimpArgs false
open Go.RowKit

theorem build_gk (kb : Nat) (H : Nat → Nat) (w : World) : (Instr.build 58 #[(0, .pointer (some ⟨kb, 0, none⟩)), (1, .agg (rowC 16 H).toArray)]).run Tryz.prog w = .ok (.agg (gkC kb H).toArray) w := run_build w 58 _ _ (by kernel_rfl)
theorem wpList_buildG {ops : Array Oper} {rest : List Oper} {o : Oper} {a : Act} {w : World} {Q : Exit → Act → World → Prop} {C : Array Value} (hgd : o.guard = none) (parts : Array (Nat × Operand)) (ps : Array (Nat × Value)) (ho : o.op = .build 58 parts) (hp : (parts.map fun (i, x) => (i, a.eval x)) = ps) (h : ∀ w, (Instr.build 58 ps).run Tryz.prog w = .ok (.agg C) w)
    (hk : wpList Tryz.prog ops Q rest (a.put o.dst (.agg C)) w) : wpList Tryz.prog ops Q (o :: rest) a w := by
  refine wpList_plain hgd fun K hK => ?_
  unfold Oper.wp execOp
  simp only [ho, hp, Sem.run_bind, h, Result.andThen_ok]
  exact hK _ _ hk
theorem KG.range {w : World} {g kb bx : Nat} {W : Nat → Nat} (h : KG w g kb bx W) : w.rangeAt g 1 (rowC 16 (h0F W)) := fun j v hv => by
  rw [Blk.cell h.me, List.getElem?_toArray]
  show (Value.pointer (some ⟨kb, 0, none⟩) :: rowC 16 (h0F W))[1 + j]? = some v
  rw [Nat.add_comm, List.getElem?_cons_succ]; exact hv
/-- A key has come to be. -/
def GS (w0 : World) (W : Nat → Nat) (g kb bx : Nat) (w : World) : Prop := KG w g kb bx W ∧ Below w0.heap.size w0 w ∧ w0.heap.size ≤ bx ∧ w0.heap.size ≤ g ∧ w0.heap.size ≤ kb
set_option maxRecDepth 100000 in
set_option maxHeartbeats 4000000 in
theorem gnew_any (f : Nat → Nat) (oa : Option Addr) (cap : Nat) (w : World) (hb : Bytes w oa 32 f) :
    Calls Tryz.prog 9 #[.slice oa 32 cap] w fun e w' => ∃ g kb bx, e = .returned (.tuple #[.pointer (some ⟨g, 0, none⟩), .nilIface]) ∧ GS w (exK f 60) g kb bx w' := by
  have HNW := Lib.hid (new_any f oa cap w hb)
  clear hb
  have HZ : Hid (∀ w, (Instr.build 49 #[]).run Tryz.prog w = .ok (.agg zero16) w) := Lib.hid build_none
  obtain ⟨H, hH⟩ : ∃ q, (rowC 16 (h0F (exK f 60))).toArray = q := ⟨_, rfl⟩
  have HH := Lib.hid hH
  clear hH
  go_enter Tryz.func9, Tryz.ntmps9
  go_wp2_with fail
  refine HNW.out.mono ?_
  rintro e w1 ⟨kb, bx, rfl, hK1, hB1, hb1, hx1, hx2⟩
  clear HNW
  have HS1 := Lib.hid (show KeyB w1 kb (exK f 60) bx ∧ BoxIn w1 bx ∧ Below w.heap.size w w1 ∧ w.heap.size ≤ bx ∧ bx < kb from ⟨hK1, hB1, hb1, hx1, hx2⟩)
  have HENC : Hid (Calls Tryz.prog 17 #[.pointer (some ⟨kb, 0, none⟩), .agg zero16] w1 fun e w'' => e = .returned (.agg H) ∧ BoxIn w'' bx ∧ Own bx w1 w'') := Lib.hid (by
    rw [← HH.out]
    exact enc_any kb bx (exK f 60) (fun _ => 0) w1 hK1 hB1 (by omega) (fun _ _ => Nat.zero_lt_succ _))
  have HBG : Hid (∀ w, (Instr.build 58 #[(0, .pointer (some ⟨kb, 0, none⟩)), (1, .agg H)]).run Tryz.prog w = .ok (.agg (gkC kb (h0F (exK f 60))).toArray) w) := Lib.hid (HH.out ▸ build_gk kb _)
  obtain ⟨G, hG⟩ : ∃ q, (gkC kb (h0F (exK f 60))).toArray = q := ⟨_, rfl⟩
  rw [hG] at HBG
  have HG := Lib.hid hG
  clear hK1 hB1 hb1 hx1 hx2 hG
  go_wp2_with (first | (refine wpList_build16 rfl #[] #[] rfl (by simp) HZ.out ?_))
  refine HENC.out.mono ?_
  rintro e w2 ⟨rfl, hB2, hO2⟩
  have HS2 := Lib.hid (show KeyB w2 kb (exK f 60) bx ∧ BoxIn w2 bx ∧ Below w.heap.size w w2 ∧ w.heap.size ≤ bx ∧ bx < kb from by
    obtain ⟨a1, a2, a3, a4, a5⟩ := HS1.out
    exact ⟨hO2.blk a1 (by omega), hB2, a3.trans (hO2.below a4 a3.size), a4, a5⟩)
  clear hB2 hO2 HENC HS1
  go_wp2_with (first | (refine wpList_buildG rfl #[(0, Go.Operand.tmp 14), (1, Go.Operand.tmp 17)] #[(0, .pointer (some ⟨kb, 0, none⟩)), (1, .agg H)] rfl (by simp; exact ⟨rfl, rfl⟩) HBG.out ?_))
  refine bodyPost_ret (results_tmp2 rfl _ _ _) rfl ?_
  obtain ⟨a1, a2, a3, a4, a5⟩ := HS2.out
  have hb : Below w2.heap.size w2 (w2.alloc (.cells G 58)) := (Below.refl _ _).alloc (Nat.le_refl _) _
  refine ⟨w2.heap.size, kb, bx, rfl, ⟨?_, Blk.below a1 hb (Blk.lt a1), a2.below hb, ?_, by omega⟩, a3.trans (hb.mono a3.size), a4, a3.size, by omega⟩
  · rw [HG.out]; exact Blk.new _ _ _
  · have := a2.lt; omega
set_option maxRecDepth 100000 in
set_option maxHeartbeats 4000000 in
theorem tag_any (g kb bx : Nat) (W nn c a : Nat → Nat) (cn an : Nat) (on oc oa : Option Addr) (capn capc capa : Nat) (w : World) (hK : KG w g kb bx W) (hn : Bytes w on 12 nn) (hc : Bytes w oc cn c) (ha : Bytes w oa an a)
    (hnb : ∀ ad, on = some ad → ad.block ≠ bx) (h1 : cn ≤ capc) (h2 : an ≤ capa) (h3 : capc ≤ maxLen) (h4 : capa ≤ maxLen) (h5 : cn < 1000000) (h6 : an < 1000000) :
    Calls Tryz.prog 14 #[.pointer (some ⟨g, 0, none⟩), .slice on 12 capn, .slice oc cn capc, .slice oa an capa] w fun e w' => e = .returned (.agg (rowC 16 (tgF W nn a an c cn)).toArray) ∧ KG w' g kb bx W ∧ Own bx w w' := by
  have hz := zero16_run
  obtain ⟨H, hH⟩ : ∃ q, (rowC 16 (h0F W)).toArray = q := ⟨_, rfl⟩
  obtain ⟨S, hS⟩ : ∃ q, (rowC 16 (hashF (h0F W) a an c cn)).toArray = q := ⟨_, rfl⟩
  obtain ⟨M, hM⟩ : ∃ q, (rowC 16 (cW W nn 1)).toArray = q := ⟨_, rfl⟩
  obtain ⟨T, hT⟩ : ∃ q, (rowC 16 (tgF W nn a an c cn)).toArray = q := ⟨_, rfl⟩
  have HT := Lib.hid hT
  have hnn : ∀ i, i < 12 → nn i < 256 := fun i hi => (hn i hi).1
  obtain ⟨wa, hwa⟩ : ∃ x, w.alloc (.cells zero16 49) = x := ⟨_, rfl⟩
  have hba : Below w.heap.size w wa := by rw [← hwa]; exact (Below.refl _ _).alloc (Nat.le_refl _) _
  have hZa : Blk wa w.heap.size zero16 49 := by rw [← hwa]; exact Blk.new w zero16 49
  have hKa := hK.below hba
  have HLD : Hid (wa.rangeAt g 1 (rowC 16 (h0F W))) := Lib.hid hKa.range
  have HHC : Hid ((rowC 16 (h0F W)).toArray = H) := Lib.hid hH
  have HHA : Hid (Calls Tryz.prog 25 #[.agg H, .slice oa an capa, .slice oc cn capc] wa fun e w' => e = .returned (.agg S) ∧ Below wa.heap.size wa w') := Lib.hid (by
    rw [← hH, ← hS]
    exact hash_any (h0F W) a c oa oc an cn capa capc wa (h0F_lt W) (ha.later hba) (hc.later hba) h2 h1 h4 h3 h6 h5)
  have HCT : Hid (∀ w', Below w.heap.size w w' → KG w' g kb bx W → Calls Tryz.prog 23 #[.pointer (some ⟨g, 0, none⟩), .slice on 12 capn, .int .u32 1] w' fun e w'' => e = .returned (.agg M) ∧ KG w'' g kb bx W ∧ Own bx w' w'') := Lib.hid fun w' hb hk => by
    rw [← hM]
    exact counter_any g kb bx W nn 1 on capn w' hk (hn.later hb) (by decide)
  have HAD : Hid (∀ w', Calls Tryz.prog 24 #[.agg S, .agg M] w' fun e w'' => e = .returned (.agg T) ∧ Below w'.heap.size w' w'') := Lib.hid fun w' => by
    rw [← hS, ← hM, ← hT]
    exact gadd_any _ _ w' (fun i _ => mulF_lt _ _ i) (cW_lt hnn)
  have HTC : Hid (∃ f, T = (rowC 16 f).toArray) := Lib.hid ⟨_, hT.symm⟩
  have HZC : Hid (∃ f, zero16 = (rowC 16 f).toArray) := Lib.hid ⟨_, rfl⟩
  have HIT : Hid ((Tryz.prog.info? 49).map (·.size) = some T.size) := Lib.hid (hT ▸ info16 _)
  have HI16 : Hid ((Tryz.prog.info? 49).map (·.size) = some (rowC 16 (h0F W)).length) := Lib.hid (by rw [rowC_len]; exact size16)
  have HS0 : Hid (KG wa g kb bx W ∧ Blk wa w.heap.size zero16 49 ∧ Below w.heap.size w wa) := Lib.hid ⟨hKa, hZa, hba⟩
  have HK := Lib.hid hK
  have HXL := Lib.hid hK.lt
  clear hK hn hc ha hnb h1 h2 h3 h4 h5 h6 hH hS hM hT hnn hba hZa hKa
  go_enter Tryz.func14, Tryz.ntmps14
  go_wp2_with (first | (refine wpList_load_mid rfl 49 (.tmp 11) rfl g 1 rfl (rowC 16 (h0F W)) _ ?_ Tryz.underlying49 rfl HI16.out ?_; exact HLD.out; rw [HHC.out]))
  refine HHA.out.mono ?_
  rintro e w1 ⟨rfl, hb1⟩
  have HS1 : Hid (KG w1 g kb bx W ∧ Blk w1 w.heap.size zero16 49 ∧ Below w.heap.size w w1) := Lib.hid (by
    obtain ⟨a1, a2, a3⟩ := HS0.out
    exact ⟨a1.below hb1, Blk.below a2 hb1 (Blk.lt a2), a3.trans (hb1.mono a3.size)⟩)
  clear hb1 HS0 HLD HHA
  go_wp2_with fail
  refine (HCT.out w1 HS1.out.2.2 HS1.out.1).mono ?_
  rintro e w2 ⟨rfl, hk2, hO2⟩
  have HS2 : Hid (KG w2 g kb bx W ∧ Blk w2 w.heap.size zero16 49 ∧ Own bx w w2) := Lib.hid (by
    obtain ⟨a1, a2, a3⟩ := HS1.out
    exact ⟨hk2, hO2.blk a2 (by have := HXL.out; omega), (Own.of_below a3).trans hO2⟩)
  clear hk2 hO2 HS1 HCT
  go_wp2_with fail
  refine (HAD.out w2).mono ?_
  rintro e w3 ⟨rfl, hb3⟩
  have HS3 : Hid (KG w3 g kb bx W ∧ Blk w3 w.heap.size zero16 49 ∧ Own bx w w3) := Lib.hid (by
    obtain ⟨a1, a2, a3⟩ := HS2.out
    exact ⟨a1.below hb3, Blk.below a2 hb3 (Blk.lt a2), a3.trans (Own.of_below hb3)⟩)
  clear hb3 HS2
  have HS4 : Hid (KG (w3.setCells w.heap.size 0 T.toList) g kb bx W ∧ Blk (w3.setCells w.heap.size 0 T.toList) w.heap.size T 49 ∧ Own bx w (w3.setCells w.heap.size 0 T.toList)) := Lib.hid (by
    obtain ⟨a1, a2, a3⟩ := HS3.out
    have hO : Own w.heap.size w3 (w3.setCells w.heap.size 0 T.toList) := Own.setCells _ _ _
    exact ⟨HK.out.low a1 (hO.below (Nat.le_refl _) a3.size), Blk.store16 a2 HTC.out HZC.out, a3.two hO (Nat.le_refl _)⟩)
  go_wp2_with (first | (refine wpList_store16 rfl (.tmp 8) (.tmp 19) rfl w.heap.size rfl T zero16 rfl HS3.out.2.1 HTC.out HZC.out ?_))
  generalize w3.setCells w.heap.size 0 T.toList = w4 at *
  refine bodyPost_ret (v := .agg T) ?_ rfl ⟨by rw [HT.out], HS4.out.1, HS4.out.2.2⟩
  exact results_cell_row Tryz.results14 _ _ w.heap.size 49 T (0, 0) _ rfl HS4.out.2.1 Tryz.underlying49 rfl HIT.out
end Go.Proofs.YtkcbckafibjflaaGreatDoor
namespace Go.Proofs.YtkcbckafibjflaaGreatDoor
set_option linter.unusedVariables false
set_option linter.unusedSimpArgs false
set_option linter.unusedVariables false
set_option linter.unusedSimpArgs false
open Go.RowKit

/-- What is left of bytes ahead of block i. -/
def NB (b off n cap i : Nat) (v : Value) : Prop := (16 * i < n ∧ v = .slice (some ⟨b, off + 16 * i, none⟩) (n - 16 * i) (cap - 16 * i)) ∨ (n ≤ 16 * i ∧ ∃ a c, v = .slice a 0 c)
def GB (Bn b off n cap i : Nat) (A : World) : Prop := ∃ v, Blk A Bn #[v] 22 ∧ NB b off n cap i v
def RBi (Bn b off n cap i : Nat) (A B : World) : Prop := ∃ v, NB b off n cap (i + 1) v ∧ B = A.setCell ⟨Bn, 0, none⟩ v
def EB (b off n cap i : Nat) : Array Value := #[.int .u32 ((2 + i : Nat) : Int), .slice (some ⟨b, off + 16 * i, none⟩) (min 16 (n - 16 * i)) (cap - 16 * i)]
set_option maxHeartbeats 4000000 in
set_option maxRecDepth 100000 in
theorem blocks_seq (Bn b off n cap N : Nat) (hN : (n + 15) / 16 = N) (hc : n ≤ cap) (hm : cap ≤ maxLen) (hs : n < 1000000) :
    Seq Tryz.prog 42 #[.pointer (some ⟨Bn, 0, none⟩)] (EB b off n cap) N (RBi Bn b off n cap) (GB Bn b off n cap) := by
  intro l J J' Jx W hG hJd hJxd hR hY h0
  have HG : Hid (∀ i A, J i A → GB Bn b off n cap i A) := Lib.hid hG
  have HR : Hid (∀ i A B, i < N → J i A → RBi Bn b off n cap i A B → J' i B) := Lib.hid hR
  have HY := Lib.hid hY
  have HN := Lib.hid (show (n + 15) / 16 = N ∧ n < 1000000 ∧ n ≤ cap ∧ cap ≤ maxLen from ⟨hN, hs, hc, hm⟩)
  clear hG hJd hJxd hR hY hN hs hc hm
  go_enter Tryz.func42, Tryz.ntmps42
  go_wp2_with fail
  go_loopw [3] (fun y wr => ∃ i : Nat, i ≤ N ∧ y = .int .u32 ((2 + i : Nat) : Int) ∧ J i wr) (fun y _ => N + 2 - (intOf y).toNat)
  case atStart => exact ⟨0, Nat.zero_le _, rfl, h0⟩
  case round =>
    obtain ⟨i, hi, rfl, hJ⟩ := hrel
    obtain ⟨v, hB, hv⟩ := HG.out i wr hJ
    have c0 : wr.cell? ⟨Bn, 0, none⟩ = some v := by rw [Blk.cell hB]; rfl
    have f0 : wr.frozen? ⟨Bn, 0, none⟩ = false := Blk.free hB _
    by_cases hlt : i < N
    · have h16 : 16 * i < n := by have := HN.out; omega
      rcases hv with ⟨_, rfl⟩ | ⟨hx, _⟩
      rotate_left
      · omega
      have HE : Hid (EB b off n cap i = #[.int .u32 ((2 + i : Nat) : Int), .slice (some ⟨b, off + 16 * i, none⟩) (min 16 (n - 16 * i)) (cap - 16 * i)]) := Lib.hid rfl
      have HV : Hid (∀ v, NB b off n cap (i + 1) v → J' i (wr.setCell ⟨Bn, 0, none⟩ v)) := Lib.hid fun v h => HR.out i wr _ hlt hJ ⟨v, h, rfl⟩
      obtain ⟨o, ho⟩ : ∃ y, off + 16 * i = y := ⟨_, rfl⟩
      obtain ⟨m, hm⟩ : ∃ y, n - 16 * i = y := ⟨_, rfl⟩
      obtain ⟨c, hc⟩ : ∃ y, cap - 16 * i = y := ⟨_, rfl⟩
      have HO := Lib.hid (show off + 16 * i = o ∧ n - 16 * i = m ∧ cap - 16 * i = c from ⟨ho, hm, hc⟩)
      rw [ho, hm, hc] at c0 HE
      have hn := HN.out
      have hmc : m ≤ c := by omega
      have hm0 : 0 < m := by omega
      have hcl : c ≤ maxLen := by omega
      have hmx : m < 1000000 := by omega
      have e0 : (0 : Int) < (m : Int) := by omega
      have HI := Lib.hid hi
      have HL := Lib.hid hlt
      clear hn ho hm hc hJ hB h16 hi hlt h0
      by_cases h6 : 16 ≤ m
      · have e1 : (16 : Int) ≤ (m : Int) := by omega
        have e2 : (16 : Int) ≤ (c : Int) := by omega
        have HE2 : Hid (EB b off n cap i = #[.int .u32 (2 + (i : Int)), .slice (some ⟨b, o, none⟩) 16 c]) := Lib.hid (by
          rw [HE.out, show min 16 m = 16 by omega, show ((2 + i : Nat) : Int) = 2 + (i : Int) by omega])
        have HA : Hid (∀ a, (16 < m → a = some ⟨b, o + 16, none⟩) → NB b off n cap (i + 1) (.slice a (m - 16) (c - 16))) := Lib.hid fun a ha => by
          obtain ⟨h1, h2, h3⟩ := HO.out
          by_cases h : 16 * (i + 1) < n
          · exact Or.inl ⟨h, by rw [ha (by omega), show off + 16 * (i + 1) = o + 16 by omega, show n - 16 * (i + 1) = m - 16 by omega, show cap - 16 * (i + 1) = c - 16 by omega]⟩
          · exact Or.inr ⟨by omega, a, c - 16, by rw [show m - 16 = 0 by omega]⟩
        clear HE
        go_upto_region 5 with fail
        generalize hv : (@ite (Option Addr) (c = 16) _ _ _) = a0
        have HJ1 := Lib.hid (HV.out (.slice a0 (m - 16) (c - 16)) (HA.out a0 (fun h => by rw [← hv, if_neg (by omega)])))
        clear hv
        generalize Value.slice a0 (m - 16) (c - 16) = V0 at *
        obtain ⟨W1, hW1⟩ : ∃ q, wr.setCell ⟨Bn, 0, none⟩ V0 = q := ⟨_, rfl⟩
        rw [hW1] at HJ1 ⊢
        clear hW1
        obtain ⟨fn, tmps, assign, body, hy, hRd⟩ := HY.out i W1 HL.out HJ1.out
        have HRD := Lib.hid hRd
        clear hRd f0 c0
        rw [HE2.out] at hy
        have k3 : IntKind.u32.wrap (2 + (i : Int) + 1) = ((2 + (i + 1) : Nat) : Int) := by
          have := HN.out; have := HL.out
          simp [IntKind.wrap, IntKind.bits, IntKind.signed]; omega
        refine (wpIn_wide (n := 0)).1 ?_
        gi_wp2
        refine ⟨rfl, ?_⟩
        refine HRD.out.mono ?_
        rintro e W' (⟨rfl, hJ2⟩ | ⟨rfl, hJx⟩)
        · gi_wp2
          clear hy
          go_wp2_with fail
          go_roundw
          case rel => exact ⟨i + 1, HL.out, rfl, hJ2⟩
          case measure => have := HL.out; simp [intOf]; omega
        · gi_wp2
          clear hy
          go_wp2_with fail
          refine bodyPost_ret (results_none rfl _ _ _) rfl ?_
          exact ⟨⟨_, rfl⟩, .inr hJx⟩
      · have e1 : ¬ (16 : Int) ≤ (m : Int) := by omega
        have HE2 : Hid (EB b off n cap i = #[.int .u32 (2 + (i : Int)), .slice (some ⟨b, o, none⟩) m c]) := Lib.hid (by
          rw [HE.out, show min 16 m = m by omega, show ((2 + i : Nat) : Int) = 2 + (i : Int) by omega])
        have HA : Hid (∀ a k, NB b off n cap (i + 1) (.slice a 0 k)) := Lib.hid fun a k => by
          obtain ⟨h1, h2, h3⟩ := HO.out
          exact Or.inr ⟨by omega, a, k, rfl⟩
        clear HE
        go_upto_region 5 with fail
        generalize hv : (@ite (Option Addr) (c = m) _ _ _) = a0
        have HJ1 := Lib.hid (HV.out (.slice a0 0 (c - m)) (HA.out a0 _))
        clear hv
        generalize Value.slice a0 0 (c - m) = V0 at *
        obtain ⟨W1, hW1⟩ : ∃ q, wr.setCell ⟨Bn, 0, none⟩ V0 = q := ⟨_, rfl⟩
        rw [hW1] at HJ1 ⊢
        clear hW1
        obtain ⟨fn, tmps, assign, body, hy, hRd⟩ := HY.out i W1 HL.out HJ1.out
        have HRD := Lib.hid hRd
        clear hRd f0 c0
        rw [HE2.out] at hy
        have k3 : IntKind.u32.wrap (2 + (i : Int) + 1) = ((2 + (i + 1) : Nat) : Int) := by
          have := HN.out; have := HL.out
          simp [IntKind.wrap, IntKind.bits, IntKind.signed]; omega
        refine (wpIn_wide (n := 0)).1 ?_
        gi_wp2
        refine ⟨rfl, ?_⟩
        refine HRD.out.mono ?_
        rintro e W' (⟨rfl, hJ2⟩ | ⟨rfl, hJx⟩)
        · gi_wp2
          clear hy
          go_wp2_with fail
          go_roundw
          case rel => exact ⟨i + 1, HL.out, rfl, hJ2⟩
          case measure => have := HL.out; simp [intOf]; omega
        · gi_wp2
          clear hy
          go_wp2_with fail
          refine bodyPost_ret (results_none rfl _ _ _) rfl ?_
          exact ⟨⟨_, rfl⟩, .inr hJx⟩
    · obtain rfl : N = i := by omega
      have HJ := Lib.hid hJ
      rcases hv with ⟨hx, _⟩ | ⟨_, a, c, rfl⟩
      · have := HN.out; omega
      clear hJ h0
      go_wp2_with fail
      go_end0
      exact ⟨⟨_, rfl⟩, .inl HJ.out⟩
end Go.Proofs.YtkcbckafibjflaaGreatDoor
namespace Go.Proofs.YtkcbckafibjflaaGreatDoor
set_option linter.unusedVariables false
set_option linter.unusedSimpArgs false
set_option linter.unusedVariables false
set_option linter.unusedSimpArgs false
open Go.RowKit

/-- A function that ranges over one, from its body. -/
theorem calls_marks {P : Program} {f : FuncId} {fn : Func} {c : Code} {args : Array Value} {w : World} {R : Ending → World → Prop} (hf : P.funcs[f]? = some fn) (hb : fn.body = some c)
    (h : c.wp P (bodyPostM Fence.wide 0 P fn R) { tmps := args ++ Array.replicate (fn.ntmps - args.size) undef, defers := [] } w) : Calls P f args w R :=
  (callsIn_wide (n := 0)).1 (callsIn_of_wp_marks hf hb trivial ((wpIn_wide (n := 0)).2 h) rfl)
theorem Turned.grow {B base n : Nat} {A A' : World} {v : Value} {f : Nat → Nat} (h : Turned B A A') (hG : Grow A base v n f) : Grow A' base v n f := by
  obtain ⟨hl, h1 | ⟨g, cap, cur, h1, h2, h3, h4⟩⟩ := hG
  · exact ⟨hl, .inl h1⟩
  · exact ⟨hl, .inr ⟨g, cap, cur, h1, h2, h.block h3, h4⟩⟩
theorem keeps_app {B base n : Nat} {W W1 W2 : World} {v : Value} {f : Nat → Nat} (hG : Grow W base v n f) (hb : Below W.heap.size W W1) (hg : W1.grownBy W2 v.ownBlock) : Keeps B W W2 := by
  refine ⟨Nat.le_trans hb.size hg.size, fun k o _ hk ho => ?_⟩
  have hlt := lt_of_block hk
  refine (hg.block k (Nat.lt_of_lt_of_le hlt hb.size) (fun e => ?_)).trans ((hb.block k hlt).trans hk)
  rcases hG.2 with ⟨rfl, _⟩ | ⟨g, cap, cur, rfl, _, h3, _⟩
  · cases e
  · cases e
    rw [h3] at hk; cases hk; cases ho
theorem own_put (W : World) (D : Nat) (o : Obj) : Own D W (W.putObj D o) := ⟨rfl, rfl, rfl, by simp, fun k _ hn => World.putObj_heap_other hn⟩
/-- make of an empty row with room. -/
theorem wpList_mk0 {ops : Array Oper} {rest : List Oper} {o : Oper} {a : Act} {w : World} {Q : Exit → Act → World → Prop} (hgd : o.guard = none) (x y : Operand) (ho : o.op = .makeSlice 22 x y) (c base : Nat) (hx : a.eval x = .int .i64 0) (hy : a.eval y = .int .i64 (c : Int)) (hc : c < 1000000000000) (hb : base ≤ w.heap.size)
    (h : ∀ w', (∀ f, Grow w' base (.slice (some ⟨w.heap.size, 0, none⟩) 0 c) 0 f) → w.grownBy w' none → wpList Tryz.prog ops Q rest (a.put o.dst (.slice (some ⟨w.heap.size, 0, none⟩) 0 c)) w') :
    wpList Tryz.prog ops Q (o :: rest) a w := by
  obtain ⟨i0, hi, hz0, hz1, hz2⟩ := info_parts info_u8
  obtain ⟨w', hr, hown, hg⟩ := run_make_own (P := Tryz.prog) w base 22 5 i0 (.int .u8 0) 1 Tryz.underlying22 hi hz0 hz1 .i64 .i64 c (by rw [hz2]; omega) (by unfold maxLen; omega) hb
  refine wpList_plain hgd fun K hK => ?_
  unfold Oper.wp execOp
  simp only [ho, hx, hy, Sem.run_bind, hr, Result.andThen_ok, Sem.run_pure]
  exact hK _ _ (h w' (fun f => hown) hg)

/-- Whatever is no block of bx and was there ahead of w0 lies as it lay; a key; a row that grows, and the variable that has it. -/
structure CP (b7 : Nat) (w0 : World) (g kb bx : Nat) (W nn p : Nat → Nat) (n : Nat) (on : Option Addr) (capn : Nat) (v : Value) (k : Nat) (A : World) : Prop where
  kp : Blk A w0.heap.size #[.pointer (some ⟨g, 0, none⟩)] 26
  np : Blk A (w0.heap.size + 1) #[.slice on 12 capn] 22
  grow : Grow A (w0.heap.size + 2) v k (cphF W nn p)
  apart : ∀ q, v.ownBlock = some q → q < b7 ∨ b7 + 1 < q
  key : KG A g kb bx W
  own : Own bx w0 A
  start : KG w0 g kb bx W
  place : w0.heap.size + 2 < b7 ∧ b7 + 1 < A.heap.size
section
variable {b7 g kb bx n capn k : Nat} {w0 A B : World} {W nn p : Nat → Nat} {on : Option Addr} {v : Value}
/-- A block that is none of these has turned. -/
theorem CP.other (h : CP b7 w0 g kb bx W nn p n on capn v k A) {c : Nat} (hO : Own c A B) (hc : w0.heap.size + 2 ≤ c) (hn : ∀ q, v.ownBlock = some q → q ≠ c) : CP b7 w0 g kb bx W nn p n on capn v k B := by
  have hp := h.place
  refine ⟨hO.blk h.kp (by omega), hO.blk h.np (by omega), h.grow.ownN hO hn, h.apart, h.start.low h.key (hO.below (by omega) (by omega)), h.own.two hO (by omega), h.start, hp.1, by have := hO.size; omega⟩
theorem CP.var (h : CP b7 w0 g kb bx W nn p n on capn v k A) {c : Nat} (hO : Own c A B) (hc : c = b7 ∨ c = b7 + 1) : CP b7 w0 g kb bx W nn p n on capn v k B :=
  h.other hO (by have := h.place; omega) (fun q hq => by have := h.apart q hq; omega)
theorem CP.later (h : CP b7 w0 g kb bx W nn p n on capn v k A) (hb : Below A.heap.size A B) : CP b7 w0 g kb bx W nn p n on capn v k B := by
  have hp := h.place
  exact h.other (Own.of_below hb : Own A.heap.size A B) (by omega) (fun q hq => by have := h.grow.lt q hq; omega)
/-- The key's cipher was asked. -/
theorem CP.asked (h : CP b7 w0 g kb bx W nn p n on capn v k A) (hO : Own bx A B) (hK : KG B g kb bx W) : CP b7 w0 g kb bx W nn p n on capn v k B := by
  have hp := h.place
  have hl := h.start.lt
  refine ⟨hO.blk h.kp (by omega), hO.blk h.np (by omega), h.grow.ownN hO (fun q hq => by have := h.grow.lt q hq; omega), h.apart, hK, h.own.trans hO, h.start, hp.1, by have := hO.size; omega⟩
theorem CP.turned (h : CP b7 w0 g kb bx W nn p n on capn v k A) {b : Nat} (hT : Turned b A B) (hb : w0.heap.size ≤ b) : CP b7 w0 g kb bx W nn p n on capn v k B := by
  have hp := h.place
  refine ⟨hT.blk h.kp, hT.blk h.np, hT.grow h.grow, h.apart, ⟨hT.blk h.key.me, hT.blk h.key.key, ?_, h.key.gne, h.key.kne⟩, h.own.then_below (hT.below.mono hb) (Nat.le_refl _), h.start, hp.1, by rw [hT.size]; exact hp.2⟩
  rcases h.key.box with t | t
  · exact .inl ⟨hT.blk t.1, t.2⟩
  · exact .inr ⟨hT.blk t.1, t.2⟩
theorem CP.drew (h : CP b7 w0 g kb bx W nn p n on capn v k A) : CP b7 w0 g kb bx W nn p n on capn v k A.drew := h.later ⟨rfl, rfl, rfl, Nat.le_refl _, fun _ _ => rfl⟩
/-- The row grew. -/
theorem CP.grew (h : CP b7 w0 g kb bx W nn p n on capn v k A) {v' : Value} (hg : A.grownBy B v.ownBlock) (hG : Grow B (w0.heap.size + 2) v' (k + 1) (cphF W nn p)) (ho : v'.ownBlock = v.ownBlock ∨ ∃ q, v'.ownBlock = some q ∧ b7 + 1 < q) : CP b7 w0 g kb bx W nn p n on capn v' (k + 1) B := by
  have hp := h.place
  have hO := own_of_grown hg
  have hge := own_ge h.grow (by omega : w0.heap.size + 2 ≤ A.heap.size)
  refine ⟨hO.blk h.kp (by omega), hO.blk h.np (by omega), hG, fun q hq => ?_, h.start.low h.key (hO.below (by omega) (by omega)), h.own.two hO (by omega), h.start, hp.1, by have := hO.size; omega⟩
  rcases ho with e | ⟨q', e, hq'⟩
  · exact h.apart q (e ▸ hq)
  · rw [e] at hq; cases hq; exact .inr hq'
/-- Another block lies as it lay behind that. -/
theorem CP.grew_blk (h : CP b7 w0 g kb bx W nn p n on capn v k A) (hg : A.grownBy B v.ownBlock) {c : Nat} {C : Array Value} {t : TypeId} (hc : Blk A c C t) (hn : ∀ q, v.ownBlock = some q → q ≠ c) : Blk B c C t :=
  (own_of_grown hg).blk hc (by
    cases e : v.ownBlock with
    | none => simp; have := Blk.lt hc; omega
    | some q => simp; exact fun h' => hn q e h'.symm)
end
theorem GB.turned {Bn b off n cap i c : Nat} {A B : World} (h : GB Bn b off n cap i A) (hT : Turned c A B) : GB Bn b off n cap i B := by
  obtain ⟨v, h1, h2⟩ := h; exact ⟨v, hT.blk h1, h2⟩
theorem GB.own {Bn b off n cap i c : Nat} {A B : World} (h : GB Bn b off n cap i A) (hO : Own c A B) (hn : Bn ≠ c) : GB Bn b off n cap i B := by
  obtain ⟨v, h1, h2⟩ := h; exact ⟨v, hO.blk h1 hn, h2⟩
theorem GB.later {Bn b off n cap i : Nat} {A B : World} (h : GB Bn b off n cap i A) (hb : Below A.heap.size A B) : GB Bn b off n cap i B := by
  obtain ⟨v, h1, h2⟩ := h; exact ⟨v, Blk.below h1 hb (Blk.lt h1), h2⟩
theorem GB.drew {Bn b off n cap i : Nat} {A : World} (h : GB Bn b off n cap i A) : GB Bn b off n cap i A.drew := by
  obtain ⟨v, h1, h2⟩ := h; exact ⟨v, h1, h2⟩
set_option maxHeartbeats 1000000 in
theorem blocks_any (oa : Option Addr) (n cap : Nat) (w : World) : Calls Tryz.prog 22 #[.slice oa n cap] w fun e w' => e = .returned (.func (.func 42) #[] #[.pointer (some ⟨w.heap.size, 0, none⟩)]) ∧ w' = w.alloc (.cells #[.slice oa n cap] 22) := by
  go_enter Tryz.func22, Tryz.ntmps22
  go_wp2_with fail
  go_ret
  exact ⟨rfl, rfl⟩
end Go.Proofs.YtkcbckafibjflaaGreatDoor
