/- Part of the proof: what stands here serves the walks of the functions that the statement calls. -/
import Derived.Test.YtncfocjmdecapaaGreatDoorY09
import Derived.Test.YtncfocjmdecapaaGreatDoorY13
import Derived.Test.YtncfocjmdecapaaGreatDoorY16
namespace Go.Proofs.YtncfocjmdecapaaGreatDoor
set_option linter.unusedVariables false
set_option linter.unusedSimpArgs false
open Go.RowKit
def px (p q : Nat × Nat) : Nat × Nat := (p.1 ^^^ q.1, p.2 ^^^ q.2)
def nxP (p : Nat × Nat) : Nat × Nat := (nx1 p.1 p.2, nx2 p.1 p.2)
def bdP (p : Nat × Nat) : Prop := p.1 < 2 ^ 64 ∧ p.2 < 2 ^ 64
def vP (p : Nat × Nat) (k : Nat) : Nat × Nat := vK p.1 p.2 k
def zP (p q : Nat × Nat) (k : Nat) : Nat × Nat := zK p.1 p.2 q.1 q.2 k
def mP (p q : Nat × Nat) : Nat × Nat := zP p q 128
def noP : Nat × Nat := (0, 0)
theorem bd_z (p : Nat × Nat) {q : Nat × Nat} (hq : bdP q) (k : Nat) : bdP (zP p q k) := zK_lt hq.1 hq.2 k
theorem bd_m (p : Nat × Nat) {q : Nat × Nat} (hq : bdP q) : bdP (mP p q) := bd_z p hq 128
theorem z_succ (p q : Nat × Nat) (k : Nat) : zP p q (k + 1) = if hasN p.1 p.2 k then px (zP p q k) (vP q k) else zP p q k := rfl
theorem beX_num {n : Nat} (hn : n < 256 ^ 8) {f : Nat → Nat} {a : Nat} : ∀ k, k ≤ 8 → (∀ i, i < 8 → f (a + i) = numB n 8 i) → beX f a k = n / 256 ^ (8 - k)
 | 0, _, _ => by rw [Nat.div_eq_of_lt hn]; rfl
 | k + 1, hk, h => by
  show beX f a k * 256 + f (a + k) = _
  rw [beX_num hn k (by omega) h, h k (by omega)]
  show n / 256 ^ (8 - k) * 256 + n / 256 ^ (8 - 1 - k) % 256 = n / 256 ^ (8 - (k + 1))
  have e1 : 8 - k = (8 - 1 - k) + 1 := by omega
  have e2 : 8 - (k + 1) = 8 - 1 - k := by omega
  rw [e1, e2, Nat.pow_succ, ← Nat.div_div_eq_div_mul]
  generalize n / 256 ^ (8 - 1 - k) = m
  omega
theorem num_beX {f : Nat → Nat} {a : Nat} : ∀ k, (∀ i, i < k → f (a + i) < 256) → ∀ i, i < k → beX f a k / 256 ^ (k - 1 - i) % 256 = f (a + i)
 | 0, _, i, h => absurd h (Nat.not_lt_zero i)
 | k + 1, hf, i, hi => by
  have hk := hf k (by omega)
  show (beX f a k * 256 + f (a + k)) / 256 ^ (k + 1 - 1 - i) % 256 = f (a + i)
  by_cases e : i = k
  ·subst e
   rw [show i + 1 - 1 - i = 0 by omega, Nat.pow_zero, Nat.div_one]
   omega
  ·rw [show k + 1 - 1 - i = (k - 1 - i) + 1 by omega, Nat.pow_succ, Nat.mul_comm (256 ^ _), ← Nat.div_div_eq_div_mul]
   have : (beX f a k * 256 + f (a + k)) / 256 = beX f a k := by omega
   rw [this]
   exact num_beX k (fun j hj => hf j (by omega)) i (by omega)
def wF (f : Nat → Nat) : Nat × Nat := (hiW f, loW f)
def blkP (p : Nat × Nat) : Nat → Nat := blkF p.1 p.2
theorem bd_w {f : Nat → Nat} (hf : ∀ i, i < 16 → f i < 256) : bdP (wF f) := ⟨hiW_lt hf, loW_lt hf⟩
theorem mulF_P (f g : Nat → Nat) : mulF f g = blkP (mP (wF f) (wF g)) := rfl
theorem w_blk {p : Nat × Nat} (hp : bdP p) : wF (blkP p) = p := by
 refine Prod.ext ?_ ?_
 ·show beX (blkF p.1 p.2) 0 8 = p.1
  rw [beX_num (n := p.1) (by have := hp.1; simpa using this) 8 (Nat.le_refl _) (fun i hi => by show (if 0 + i < 8 then numB p.1 8 (0 + i) else _) = _; rw [if_pos (by omega), Nat.zero_add])]
  simp
 ·show beX (blkF p.1 p.2) 8 8 = p.2
  rw [beX_num (n := p.2) (by have := hp.2; simpa using this) 8 (Nat.le_refl _) (fun i hi => by show (if 8 + i < 8 then _ else numB p.2 8 (8 + i - 8)) = _; rw [if_neg (by omega)]; congr 1; omega)]
  simp
theorem blk_w {f : Nat → Nat} (hf : ∀ i, i < 16 → f i < 256) : ∀ i, i < 16 → blkP (wF f) i = f i := fun i hi => by
 show (if i < 8 then numB (hiW f) 8 i else numB (loW f) 8 (i - 8)) = f i
 by_cases h : i < 8
 ·rw [if_pos h]
  have := num_beX (f := f) (a := 0) 8 (fun j hj => hf _ (by omega)) i h
  rw [Nat.zero_add] at this; exact this
 ·rw [if_neg h]
  have := num_beX (f := f) (a := 8) 8 (fun j hj => hf _ (by omega)) (i - 8) (by omega)
  rw [show 8 + (i - 8) = i by omega] at this; exact this
theorem w_congr {f g : Nat → Nat} (h : ∀ i, i < 16 → f i = g i) : wF f = wF g := by
 have hb : ∀ a k, a + k ≤ 16 → beX f a k = beX g a k := fun a k => by
  induction k with
  | zero => exact fun _ => rfl
  | succ k ih => intro hk; show beX f a k * 256 + f (a + k) = beX g a k * 256 + g (a + k); rw [ih (by omega), h _ (by omega)]
 exact Prod.ext (hb 0 8 (by omega)) (hb 8 8 (by omega))
theorem w_inj {f g : Nat → Nat} (hf : ∀ i, i < 16 → f i < 256) (hg : ∀ i, i < 16 → g i < 256) (h : wF f = wF g) : ∀ i, i < 16 → f i = g i := fun i hi => by
 rw [← blk_w hf i hi, ← blk_w hg i hi, h]
theorem w_add {f g : Nat → Nat} (hf : ∀ i, i < 16 → f i < 256) (hg : ∀ i, i < 16 → g i < 256) : wF (addF f g) = px (wF f) (wF g) :=
 Prod.ext (beX_xor 8 (fun i hi => hf _ (by omega)) (fun i hi => hg _ (by omega))) (beX_xor 8 (fun i hi => hf _ (by omega)) (fun i hi => hg _ (by omega)))
theorem mulF_lt (f g : Nat → Nat) (i : Nat) : mulF f g i < 256 := blkF_lt _ _ _
theorem w_mul (f : Nat → Nat) {g : Nat → Nat} (hg : ∀ i, i < 16 → g i < 256) : wF (mulF f g) = mP (wF f) (wF g) := by
 rw [mulF_P]; exact w_blk (bd_m _ (bd_w hg))
theorem w_zero : wF (fun _ => 0) = noP := by decide
def ctrB (nn : Nat → Nat) (c : Nat) : Nat → Nat := fun i => if i < 12 then nn i else numB c 4 (i - 12)
theorem ctrB_lt {nn : Nat → Nat} {c : Nat} (hn : ∀ i, i < 12 → nn i < 256) : ∀ i, i < 16 → ctrB nn c i < 256 := fun i _ => by
 unfold ctrB; split
 ·exact hn i (by assumption)
 ·exact numB_lt _ _ _
def cW (W nn : Nat → Nat) (c : Nat) : Nat → Nat := encK subN W (ctrB nn c) 14
theorem cW_lt {W nn : Nat → Nat} {c : Nat} (hn : ∀ i, i < 12 → nn i < 256) : ∀ i, i < 16 → cW W nn c i < 256 := fun i hi => encK_lt subN_lt (ctrB_lt hn) 14 i hi
theorem xor_lt256 {a b : Nat} (ha : a < 256) (hb : b < 256) : a ^^^ b < 256 := Nat.xor_lt_two_pow (n := 8) ha hb
def cphF (W nn p : Nat → Nat) : Nat → Nat := fun i => p i ^^^ cW W nn (2 + i / 16) (i % 16)
theorem cphF_lt {W nn p : Nat → Nat} {n : Nat} (hn : ∀ i, i < 12 → nn i < 256) (hp : ∀ i, i < n → p i < 256) : ∀ i, i < n → cphF W nn p i < 256 := fun i hi => xor_lt256 (hp i hi) (cW_lt hn _ (Nat.mod_lt _ (by decide)))
theorem cphF_back (W nn p : Nat → Nat) (i : Nat) : cphF W nn (cphF W nn p) i = p i := by
 unfold cphF; rw [Nat.xor_assoc, Nat.xor_self, Nat.xor_zero]
theorem cphF_congr {W nn p q : Nat → Nat} {i : Nat} (h : p i = q i) : cphF W nn p i = cphF W nn q i := by unfold cphF; rw [h]
def h0F (W : Nat → Nat) : Nat → Nat := encK subN W (fun _ => 0) 14
theorem h0F_lt (W : Nat → Nat) : ∀ i, i < 16 → h0F W i < 256 := fun i hi => encK_lt subN_lt (fun _ _ => Nat.zero_lt_succ _) 14 i hi
def tgF (W nn a : Nat → Nat) (an : Nat) (c : Nat → Nat) (cn : Nat) : Nat → Nat := addF (hashF (h0F W) a an c cn) (cW W nn 1)
theorem tgF_lt {W nn a c : Nat → Nat} {an cn : Nat} (hn : ∀ i, i < 12 → nn i < 256) : ∀ i, i < 16 → tgF W nn a an c cn i < 256 := fun i hi => xor_lt256 (mulF_lt _ _ _) (cW_lt hn i hi)
theorem thrF_congr {h f g : Nat → Nat} {n : Nat} (s : Nat → Nat) (hfg : ∀ i, i < n → f i = g i) : ∀ k, thrF h f n s k = thrF h g n s k
 | 0 => rfl
 | k + 1 => by
  show mulF (addF (thrF h f n s k) (chF f n k)) h = mulF (addF (thrF h g n s k) (chF g n k)) h
  rw [thrF_congr s hfg k]
  congr 2
  funext i
  unfold chF
  split
  ·exact hfg _ (by assumption)
  ·rfl
theorem tgF_congr {W nn a c d : Nat → Nat} {an cn : Nat} (h : ∀ i, i < cn → c i = d i) : tgF W nn a an c cn = tgF W nn a an d cn := by
 unfold tgF hashF twoF
 rw [thrF_congr _ h]
def boxF (W nn p : Nat → Nat) (n : Nat) (a : Nat → Nat) (an : Nat) : Nat → Nat := catF n (cphF W nn p) (tgF W nn a an (cphF W nn p) n)
theorem boxF_lt {W nn p a : Nat → Nat} {n an : Nat} (hn : ∀ i, i < 12 → nn i < 256) (hp : ∀ i, i < n → p i < 256) : ∀ i, i < n + 16 → boxF W nn p n a an i < 256 := catF_b (cphF_lt hn hp) (tgF_lt hn)
set_option maxRecDepth 100000
set_option maxHeartbeats 4000000
def gkC (kb : Nat) (H : Nat → Nat) : List Value := .pointer (some ⟨kb, 0, none⟩) :: rowC 16 H
structure KG (w : World) (g kb bx : Nat) (W : Nat → Nat) : Prop where
 me : Blk w g (gkC kb (h0F W)).toArray 116
 key : KeyB w kb W bx
 box : BoxIn w bx
 gne : g ≠ bx
 kne : kb ≠ bx
theorem KG.own {w w' : World} {g kb bx : Nat} {W : Nat → Nat} (h : KG w g kb bx W) (hO : Own bx w w') (hB : BoxIn w' bx) : KG w' g kb bx W :=
 ⟨hO.blk h.me h.gne, hO.blk h.key h.kne, hB, h.gne, h.kne⟩
theorem KG.below {w w' : World} {g kb bx : Nat} {W : Nat → Nat} (h : KG w g kb bx W) (hb : Below w.heap.size w w') : KG w' g kb bx W :=
 h.own (Own.of_below hb) (h.box.below hb)
theorem KG.low {w0 w w' : World} {g kb bx : Nat} {W : Nat → Nat} (h0 : KG w0 g kb bx W) (h : KG w g kb bx W) (hb : Below w0.heap.size w w') : KG w' g kb bx W :=
 ⟨Blk.below h.me hb (Blk.lt h0.me), Blk.below h.key hb (Blk.lt h0.key), by
  rcases h.box with t | t
  ·exact Or.inl ⟨Blk.below t.1 hb (h0.box.lt), t.2⟩
  ·exact Or.inr ⟨Blk.below t.1 hb (h0.box.lt), t.2⟩, h.gne, h.kne⟩
theorem KG.cell {w : World} {g kb bx : Nat} {W : Nat → Nat} (h : KG w g kb bx W) : w.cell? ⟨g, 0, none⟩ = some (.pointer (some ⟨kb, 0, none⟩)) := by
 rw [Blk.cell h.me]; rfl
theorem KG.lt {w : World} {g kb bx : Nat} {W : Nat → Nat} (h : KG w g kb bx W) : g < w.heap.size ∧ kb < w.heap.size ∧ bx < w.heap.size := ⟨Blk.lt h.me, Blk.lt h.key, h.box.lt⟩
def CS (w0 : World) (C D : Array Value) (g kb bx : Nat) (W : Nat → Nat) (wr : World) : Prop := Blk wr w0.heap.size C 82 ∧ Blk wr (w0.heap.size + 1) D 82 ∧ KG wr g kb bx W ∧ Own bx w0 wr ∧ KG w0 g kb bx W
def CSH (g kb b1 : Nat) (D : Array Value) (wr : World) : Prop := wr.cell? ⟨g, 0, none⟩ = some (.pointer (some ⟨kb, 0, none⟩)) ∧ Blk wr b1 D 82
theorem CS.held {w0 wr : World} {C D : Array Value} {g kb bx : Nat} {W : Nat → Nat} (h : CS w0 C D g kb bx W wr) : CSH g kb (w0.heap.size + 1) D wr := ⟨h.2.2.1.cell, h.2.1⟩
theorem CS.drew {w0 wr : World} {C D : Array Value} {g kb bx : Nat} {W : Nat → Nat} (h : CS w0 C D g kb bx W wr) : CS w0 C D g kb bx W wr.drew := by
 obtain ⟨h1, h2, h3, h4, h5⟩ := h
 have hb : Below w0.heap.size wr wr.drew := (Below.refl _ _).drew
 exact ⟨h1, h2, h5.low h3 hb, h4.drew, h5⟩
theorem CS.call {w0 wr w1 : World} {C D : Array Value} {g kb bx : Nat} {W : Nat → Nat} (h : CS w0 C D g kb bx W wr) (hB : BoxIn w1 bx) (hO : Own bx wr w1) : CS w0 C D g kb bx W w1 := by
 obtain ⟨h1, h2, h3, h4, h5⟩ := h
 have hl := h5.lt
 exact ⟨hO.blk h1 (by omega), hO.blk h2 (by omega), h3.own hO hB, h4.trans hO, h5⟩
theorem CS.store {w0 wr : World} {C C' D : Array Value} {g kb bx : Nat} {W : Nat → Nat} (h : CS w0 C D g kb bx W wr) (hC : ∃ f, C' = (rowC 16 f).toArray) (hD : ∃ f, C = (rowC 16 f).toArray) : CS w0 C' D g kb bx W (wr.setCells w0.heap.size 0 C'.toList) := by
 obtain ⟨h1, h2, h3, h4, h5⟩ := h
 have hO : Own w0.heap.size wr (wr.setCells w0.heap.size 0 C'.toList) := Own.setCells _ _ _
 have hb : Below w0.heap.size wr (wr.setCells w0.heap.size 0 C'.toList) := hO.below (Nat.le_refl _) h4.size
 exact ⟨Blk.store16 h1 hC hD, hO.blk h2 (by omega), h5.low h3 hb, h4.two hO (Nat.le_refl _), h5⟩
theorem numB4 (n i : Nat) (hi : i < 4) : numB n 4 i = n / 256 ^ (3 - i) % 256 := by unfold numB; rw [show 4 - 1 - i = 3 - i by omega]
theorem counter_any (g kb bx : Nat) (W nn : Nat → Nat) (n : Nat) (oa : Option Addr) (cap : Nat) (w : World) (hK : KG w g kb bx W) (ha : Bytes w oa 12 nn) (hn : n < 4294967296) :
  Calls Tryz.prog 57 #[.pointer (some ⟨g, 0, none⟩), .slice oa 12 cap, .int .u32 (n : Nat)] w fun e w' => e = .returned (.agg (rowC 16 (cW W nn n)).toArray) ∧ KG w' g kb bx W ∧ Own bx w w' := by
 have hz := zero16_run
 have hnn : ∀ i, i < 12 → nn i < 256 := fun i hi => (ha i hi).1
 obtain ⟨_, b, off, rfl, _⟩ := ha 0 (by decide)
 obtain ⟨wa, hwa⟩ := zX ((w.alloc (.cells zero16 82)).alloc (.cells zero16 82))
 have hba : Below w.heap.size w wa := by rw [← hwa]; exact (zA).alloc (by simp) _
 obtain ⟨cs, hcs⟩ := zX (rowC 12 nn)
 have hcl : cs.length = 12 := by rw [← hcs]; exact rowC_len _ _
 have HG : Hid (wa.heap[w.heap.size + 1]? = some (.cells (rowC 16 (fun _ => 0)).toArray 82 (0, 0))) := zh (show Blk wa (w.heap.size + 1) zero16 82 by rw [← hwa]; simpa using Blk.new (w.alloc (.cells zero16 82)) zero16 82)
 have HN : Hid (cs.length = Nat.min 12 16) := zh (by rw [hcl]; rfl)
 have HP : Hid (0 < cs.length → some (Addr.mk (w.heap.size + 1) 0 none) = some (Addr.mk (w.heap.size + 1) 0 none) ∧ ∃ ad, some (Addr.mk b off none) = some ad ∧ ∀ j v, cs[j]? = some v → wa.cell? (ad.add j) = some v) := zh fun _ => ⟨rfl, _, rfl, fun j v hv => by
  have hj : j < 12 := by
   rcases Nat.lt_or_ge j 12 with h1 | h1
   ·exact h1
   ·rw [List.getElem?_eq_none (by omega)] at hv; cases hv
  rw [← hcs, rowC_get _ hj] at hv
  cases hv
  obtain ⟨_, b1, o1, e1, hc1⟩ := ha j hj
  cases e1
  have hx : (Addr.mk b off none).add j = ⟨b, off + j, none⟩ := by
   unfold Addr.add; split
   ·rename_i hk0; subst hk0; rfl
   ·rfl
  rw [hx]
  exact cell_below hba hc1⟩
 have HFi : Hid (0 + cs.length ≤ (rowC 16 (fun _ => 0)).length) := zh (by rw [hcl, rowC_len]; omega)
 have HC1 : Hid (∀ v ∈ cs, v.oneCell' = true) := zh (hcs ▸ rowC_one _ _)
 have HBA : Hid (Below (w.heap.size + 1) wa wa) := zh (Below.refl _ _)
 have HB0 : Hid (Blk wa w.heap.size zero16 82 ∧ KG wa g kb bx W ∧ Below w.heap.size w wa) := zh ⟨by rw [← hwa]; exact (Blk.new w zero16 82).alloc _, hK.below hba, hba⟩
 have HCS := zh hcs
 have HCL := zh hcl
 have HK := zh hK
 have HNN := zh hnn
 have z0 : IntKind.u8.wrap ((n : Int) / 16777216) = ((numB n 4 0 : Nat) : Int) := by rw [numB4 _ _ (by decide)]; simp [IntKind.wrap, IntKind.bits, IntKind.signed]
 have z1 : IntKind.u8.wrap ((n : Int) / 65536) = ((numB n 4 1 : Nat) : Int) := by rw [numB4 _ _ (by decide)]; simp [IntKind.wrap, IntKind.bits, IntKind.signed]
 have z2 : IntKind.u8.wrap ((n : Int) / 256) = ((numB n 4 2 : Nat) : Int) := by rw [numB4 _ _ (by decide)]; simp [IntKind.wrap, IntKind.bits, IntKind.signed]
 have z3 : IntKind.u8.wrap (n : Int) = ((numB n 4 3 : Nat) : Int) := by rw [numB4 _ _ (by decide)]; simp [IntKind.wrap, IntKind.bits, IntKind.signed]
 have HF : Hid (∀ w', Blk w' (w.heap.size + 1) (splice (rowC 16 (fun _ => 0)) 0 cs).toArray 82 → B16 ((((w'.setCell ⟨w.heap.size + 1, 12, none⟩ (.int .u8 (numB n 4 0 : Nat))).setCell ⟨w.heap.size + 1, 13, none⟩ (.int .u8 (numB n 4 1 : Nat))).setCell ⟨w.heap.size + 1, 14, none⟩ (.int .u8 (numB n 4 2 : Nat))).setCell ⟨w.heap.size + 1, 15, none⟩ (.int .u8 (numB n 4 3 : Nat))) (w.heap.size + 1) (ctrB nn n)) := zh fun w' h => by
  rw [← hcs, splice16 _ 12 (by decide)] at h
  refine B16.congr ((((B16.set h 12 _).set 13 _).set 14 _).set 15 _) fun i hi => ?_
  unfold upd ctrB
  by_cases e : i = 15
  ·subst e; rfl
  ·rw [if_neg e]
   by_cases e : i = 14
   ·subst e; rfl
   ·rw [if_neg e]
    by_cases e : i = 13
    ·subst e; rfl
    ·rw [if_neg e]
     by_cases e : i = 12
     ·subst e; rfl
     ·rw [if_neg e]; show (if i < 12 then nn i else 0) = if i < 12 then nn i else _; rw [if_pos (by omega), if_pos (by omega)]
 have hng := hK.lt
 have HNG := zh hng
 clear hK ha hcs hcl hba hnn hng
 generalize numB n 4 0 = m0 at *
 generalize numB n 4 1 = m1 at *
 generalize numB n 4 2 = m2 at *
 generalize numB n 4 3 = m3 at *
 go_enter Tryz.func57, Tryz.ntmps57
 go_upto_region 3 with (first | (with_reducible refine wpList_copy_splice rfl (.tmp 8) (.tmp 9) 24 24 rfl 5 Tryz.underlying24 (by kernel_rfl) (some ⟨w.heap.size + 1, 0, none⟩) (some ⟨b, off, none⟩) 16 16 12 cap rfl rfl (w.heap.size + 1) 0 (rowC 16 (fun _ => 0)) 82 ?_ cs ?_ ?_ ?_ HC1.out (w.heap.size + 1) wa ?_ (Nat.le_refl _) ?_; exact HG.out; exact HN.out; exact HP.out; exact HFi.out; exact HBA.out; intro w4 HG4 HB4; have HB5 := zh HB4; clear HB4 HG HP HBA HN HFi HC1; rw [HCL.out]))
 have hs4 : Blk w4 (w.heap.size + 1) (rowC 16 (fun i => if i < 12 then nn i else 0)).toArray 82 := by
  have := HG4.out
  rw [← HCS.out, splice16 _ 12 (by decide)] at this; exact this
 have hcell : ∀ i, 12 ≤ i → i < 16 → w4.cell? ⟨w.heap.size + 1, i, none⟩ = some (.int .u8 0) := fun i h1 h2 => by
  rw [Blk.cell hs4 i, List.getElem?_toArray, rowC_get _ h2, if_neg (by omega)]; rfl
 have c12 := hcell 12 (by decide) (by decide)
 have c13 := hcell 13 (by decide) (by decide)
 have c14 := hcell 14 (by decide) (by decide)
 have c15 := hcell 15 (by decide) (by decide)
 have f12 : w4.frozen? ⟨w.heap.size + 1, 12, none⟩ = false := Blk.free hs4 _
 have f13 : w4.frozen? ⟨w.heap.size + 1, 13, none⟩ = false := Blk.free hs4 _
 have f14 : w4.frozen? ⟨w.heap.size + 1, 14, none⟩ = false := Blk.free hs4 _
 have f15 : w4.frozen? ⟨w.heap.size + 1, 15, none⟩ = false := Blk.free hs4 _
 have HQ := zh (HF.out w4 HG4.out)
 clear hcell hs4 HG4 HF
 go_upto_region 4 with fail
 have hZ5 : CS w zero16 (rowC 16 (ctrB nn n)).toArray g kb bx W ((((w4.setCell ⟨w.heap.size + 1, 12, none⟩ (.int .u8 (m0 : Nat))).setCell ⟨w.heap.size + 1, 13, none⟩ (.int .u8 (m1 : Nat))).setCell ⟨w.heap.size + 1, 14, none⟩ (.int .u8 (m2 : Nat))).setCell ⟨w.heap.size + 1, 15, none⟩ (.int .u8 (m3 : Nat))) := by
  obtain ⟨h1, h2, h3⟩ := HB0.out
  have hO : Own (w.heap.size + 1) w4 ((((w4.setCell ⟨w.heap.size + 1, 12, none⟩ (.int .u8 (m0 : Nat))).setCell ⟨w.heap.size + 1, 13, none⟩ (.int .u8 (m1 : Nat))).setCell ⟨w.heap.size + 1, 14, none⟩ (.int .u8 (m2 : Nat))).setCell ⟨w.heap.size + 1, 15, none⟩ (.int .u8 (m3 : Nat))) := ((((Own.refl _ _).set _ _).set _ _).set _ _).set _ _
  have hb4 : Below (w.heap.size + 1) wa w4 := HB5.out
  have hb6 : Below (w.heap.size + 1) wa ((((w4.setCell ⟨w.heap.size + 1, 12, none⟩ (.int .u8 (m0 : Nat))).setCell ⟨w.heap.size + 1, 13, none⟩ (.int .u8 (m1 : Nat))).setCell ⟨w.heap.size + 1, 14, none⟩ (.int .u8 (m2 : Nat))).setCell ⟨w.heap.size + 1, 15, none⟩ (.int .u8 (m3 : Nat))) := hb4.trans (hO.below (Nat.le_refl _) (by have := hb4.size; have := Blk.lt h1; have hws : wa.heap.size = w.heap.size + 2 := (by rw [← hwa]; simp); omega))
  have hb7 := h3.trans (hb6.mono (Nat.le_succ _))
  exact ⟨Blk.below h1 hb6 (Nat.lt_succ_self _), HQ.out, HK.out.low h2 (hb6.mono (Nat.le_succ _)), Own.of_below hb7, HK.out⟩
 generalize (((w4.setCell ⟨w.heap.size + 1, 12, none⟩ (.int .u8 (m0 : Nat))).setCell ⟨w.heap.size + 1, 13, none⟩ (.int .u8 (m1 : Nat))).setCell ⟨w.heap.size + 1, 14, none⟩ (.int .u8 (m2 : Nat))).setCell ⟨w.heap.size + 1, 15, none⟩ (.int .u8 (m3 : Nat)) = W0 at *
 have hC_0 := hZ5.drew
 obtain ⟨X, hX⟩ := zX ((rowC 16 (ctrB nn n)).toArray)
 obtain ⟨Y, hY⟩ := zX ((rowC 16 (cW W nn n)).toArray)
 rw [hX] at hC_0
 have hH_0 := hC_0.held
 have HENC : Hid (∀ w', CS w zero16 X g kb bx W w' → Calls Tryz.prog 55 #[.pointer (some ⟨kb, 0, none⟩), .agg X] w' fun e w'' => e = .returned (.agg Y) ∧ BoxIn w'' bx ∧ Own bx w' w'') := zh fun w' hc => by
  rw [← hX, ← hY]
  exact enc_any kb bx W (ctrB nn n) w' hc.2.2.1.key hc.2.2.1.box hc.2.2.1.kne (ctrB_lt HNN.out)
 have HIX : Hid ((Tryz.prog.info? 82).map (·.size) = some X.size) := zh (hX ▸ info16 _)
 have HIY : Hid ((Tryz.prog.info? 82).map (·.size) = some Y.size) := zh (hY ▸ info16 _)
 have HYC : Hid (∃ f, Y = (rowC 16 f).toArray) := zh ⟨_, hY.symm⟩
 have HZC : Hid (∃ f, zero16 = (rowC 16 f).toArray) := zh ⟨_, rfl⟩
 have HYE := zh hY
 clear hX hY hZ5 c12 c13 c14 c15 f12 f13 f14 f15 HB5 HQ hwa HB0 z0 z1 z2 z3
 refine wp_region_held_drew (S := (CSH g kb (w.heap.size + 1) X)) (by kernel_rfl) ?_ (fun hHeld => ?_)
 ·(try dsimp only)
  first | assumption
 generalize W0.drew = W5 at *
 refine wT 0 ?_ rfl ?_ ?_
 rotate_left
 ·intro wS hSw
  (try dsimp only at hSw)
  go_simp
  (try with_reducible rfl)
 (try simp only [Act.put, zS])
 refine wT 1 ?_ rfl ?_ ?_
 rotate_left
 ·intro wS hSw
  (try dsimp only at hSw)
  go_simp
  (try with_reducible rfl)
 (try simp only [Act.put, zS])
 refine wT 2 ?_ rfl ?_ ?_
 rotate_left
 ·intro wS hSw
  (try dsimp only at hSw)
  go_simp
  (try with_reducible rfl)
 (try simp only [Act.put, zS])
 refine wT 3 ?_ rfl ?_ ?_
 rotate_left
 ·intro wS hSw
  (have c9 := hSw.1; go_simp; (try with_reducible rfl))
 (try simp only [Act.put, zS])
 refine wT 4 ?_ rfl ?_ ?_
 rotate_left
 ·intro wS hSw
  refine exec_load16 (x := .tmp 7) ?_ ?_ (ld16 hSw.2 HIX.out) <;> rfl
 (try simp only [Act.put, zS])
 refine wR [5] ?_
 refine aN rfl fun K hK => ?_
 go_simp
 (refine (HENC.out _ hC_0).mono ?_; rintro e v1 ⟨rfl, hb1, hO1⟩; have hC_1 := hC_0.call hb1 hO1; have hH_1 := hC_1.held; clear hC_0 hH_0 hb1 hO1; skip)
 (try go_wp2_with fail)
 refine hK.out _ _ ?_ fun hHeld => ?_
 ·(try dsimp only)
  first | assumption
 clear hK K
 (try simp only [Act.put, zS])
 refine wR [6] ?_
 refine aN rfl fun K hK => ?_
 (refine step_store16 rfl (.tmp 6) (.tmp 31) rfl w.heap.size rfl Y zero16 rfl hC_1.1 HYC.out HZC.out ?_; have hC_2 := hC_1.store HYC.out HZC.out; have hH_2 := hC_2.held; clear hC_1 hH_1; generalize v1.setCells w.heap.size 0 Y.toList = v2 at *; skip)
 refine hK.out _ _ ?_ fun hHeld => ?_
 ·(try dsimp only)
  first | assumption
 clear hK K
 (try simp only [Act.put, zS])
 refine wpAnyH_done (by kernel_rfl) ?_ _
 have HC2 := zh hC_2
 clear hC_2 hH_2
 go_wp2_with fail
 refine bodyPost_ret (v := .agg Y) ?_ rfl ⟨by rw [HYE.out], HC2.out.2.2.1, HC2.out.2.2.2.1⟩
 exact results_cell_row Tryz.results57 _ _ w.heap.size 82 Y (0, 0) _ rfl HC2.out.1 Tryz.underlying82 rfl HIY.out
theorem build_gk (kb : Nat) (H : Nat → Nat) (w : World) : (Instr.build 116 #[(0, .pointer (some ⟨kb, 0, none⟩)), (1, .agg (rowC 16 H).toArray)]).run Tryz.prog w = .ok (.agg (gkC kb H).toArray) w := run_build w 116 _ _ (by kernel_rfl)
theorem wpList_buildG {ops : Array Oper} {rest : List Oper} {o : Oper} {a : Act} {w : World} {Q : Exit → Act → World → Prop} {C : Array Value} (hgd : o.guard = none) (parts : Array (Nat × Operand)) (ps : Array (Nat × Value)) (ho : o.op = .build 116 parts) (hp : (parts.map fun (i, x) => (i, a.eval x)) = ps) (h : ∀ w, (Instr.build 116 ps).run Tryz.prog w = .ok (.agg C) w)
  (hk : wpList Tryz.prog ops Q rest (a.put o.dst (.agg C)) w) : wpList Tryz.prog ops Q (o :: rest) a w := by
 refine wpList_plain hgd fun K hK => ?_
 unfold Oper.wp execOp
 simp only [ho, hp, Sem.run_bind, h, Result.andThen_ok]
 exact hK _ _ hk
theorem KG.range {w : World} {g kb bx : Nat} {W : Nat → Nat} (h : KG w g kb bx W) : w.rangeAt g 1 (rowC 16 (h0F W)) := fun j v hv => by
 rw [Blk.cell h.me, List.getElem?_toArray]
 show (Value.pointer (some ⟨kb, 0, none⟩) :: rowC 16 (h0F W))[1 + j]? = some v
 rw [Nat.add_comm, List.getElem?_cons_succ]; exact hv
def GS (w0 : World) (W : Nat → Nat) (g kb bx : Nat) (w : World) : Prop := KG w g kb bx W ∧ Below w0.heap.size w0 w ∧ w0.heap.size ≤ bx ∧ w0.heap.size ≤ g ∧ w0.heap.size ≤ kb
theorem gnew_any (f : Nat → Nat) (oa : Option Addr) (cap : Nat) (w : World) (hb : Bytes w oa 32 f) :
  Calls Tryz.prog 35 #[.slice oa 32 cap] w fun e w' => ∃ g kb bx, e = .returned (.tuple #[.pointer (some ⟨g, 0, none⟩), .nilIface]) ∧ GS w (exK f 60) g kb bx w' := by
 have HNW := zh (new_any f oa cap w hb)
 clear hb
 have HZ : Hid (∀ w, (Instr.build 82 #[]).run Tryz.prog w = .ok (.agg zero16) w) := zh build_none
 obtain ⟨H, hH⟩ := zX ((rowC 16 (h0F (exK f 60))).toArray)
 have HH := zh hH
 clear hH
 go_enter Tryz.func35, Tryz.ntmps35
 go_wp2_with fail
 refine HNW.out.mono ?_
 rintro e w1 ⟨kb, bx, rfl, hK1, hB1, hb1, hx1, hx2⟩
 clear HNW
 have HS1 := zh (show KeyB w1 kb (exK f 60) bx ∧ BoxIn w1 bx ∧ Below w.heap.size w w1 ∧ w.heap.size ≤ bx ∧ bx < kb from ⟨hK1, hB1, hb1, hx1, hx2⟩)
 have HENC : Hid (Calls Tryz.prog 55 #[.pointer (some ⟨kb, 0, none⟩), .agg zero16] w1 fun e w'' => e = .returned (.agg H) ∧ BoxIn w'' bx ∧ Own bx w1 w'') := zh (by
  rw [← HH.out]
  exact enc_any kb bx (exK f 60) (fun _ => 0) w1 hK1 hB1 (by omega) (fun _ _ => Nat.zero_lt_succ _))
 have HBG : Hid (∀ w, (Instr.build 116 #[(0, .pointer (some ⟨kb, 0, none⟩)), (1, .agg H)]).run Tryz.prog w = .ok (.agg (gkC kb (h0F (exK f 60))).toArray) w) := zh (HH.out ▸ build_gk kb _)
 obtain ⟨G, hG⟩ := zX ((gkC kb (h0F (exK f 60))).toArray)
 rw [hG] at HBG
 have HG := zh hG
 clear hK1 hB1 hb1 hx1 hx2 hG
 go_wp2_with (first | (refine wpList_build16 rfl #[] #[] rfl (by simp) HZ.out ?_))
 refine HENC.out.mono ?_
 rintro e w2 ⟨rfl, hB2, hO2⟩
 have HS2 := zh (show KeyB w2 kb (exK f 60) bx ∧ BoxIn w2 bx ∧ Below w.heap.size w w2 ∧ w.heap.size ≤ bx ∧ bx < kb from by
  obtain ⟨a1, a2, a3, a4, a5⟩ := HS1.out
  exact ⟨hO2.blk a1 (by omega), hB2, a3.trans (hO2.below a4 a3.size), a4, a5⟩)
 clear hB2 hO2 HENC HS1
 go_wp2_with (first | (refine wpList_buildG rfl #[(0, Go.Operand.tmp 14), (1, Go.Operand.tmp 17)] #[(0, .pointer (some ⟨kb, 0, none⟩)), (1, .agg H)] rfl (by simp; exact ⟨rfl, rfl⟩) HBG.out ?_))
 refine bodyPost_ret (results_tmp2 rfl _ _ _) rfl ?_
 obtain ⟨a1, a2, a3, a4, a5⟩ := HS2.out
 have hb : Below w2.heap.size w2 (w2.alloc (.cells G 116)) := zA
 refine ⟨w2.heap.size, kb, bx, rfl, ⟨?_, Blk.below a1 hb (Blk.lt a1), a2.below hb, ?_, by omega⟩, a3.trans (hb.mono a3.size), a4, a3.size, by omega⟩
 ·rw [HG.out]; exact Blk.new _ _ _
 ·have := a2.lt; omega
theorem tag_any (g kb bx : Nat) (W nn c a : Nat → Nat) (cn an : Nat) (on oc oa : Option Addr) (capn capc capa : Nat) (w : World) (hK : KG w g kb bx W) (hn : Bytes w on 12 nn) (hc : Bytes w oc cn c) (ha : Bytes w oa an a)
  (hnb : ∀ ad, on = some ad → ad.block ≠ bx) (h1 : cn ≤ capc) (h2 : an ≤ capa) (h3 : capc ≤ maxLen) (h4 : capa ≤ maxLen) (h5 : cn < 1000000) (h6 : an < 1000000) :
  Calls Tryz.prog 37 #[.pointer (some ⟨g, 0, none⟩), .slice on 12 capn, .slice oc cn capc, .slice oa an capa] w fun e w' => e = .returned (.agg (rowC 16 (tgF W nn a an c cn)).toArray) ∧ KG w' g kb bx W ∧ Own bx w w' := by
 have hz := zero16_run
 obtain ⟨H, hH⟩ := zX ((rowC 16 (h0F W)).toArray)
 obtain ⟨S, hS⟩ := zX ((rowC 16 (hashF (h0F W) a an c cn)).toArray)
 obtain ⟨M, hM⟩ := zX ((rowC 16 (cW W nn 1)).toArray)
 obtain ⟨T, hT⟩ := zX ((rowC 16 (tgF W nn a an c cn)).toArray)
 have HT := zh hT
 have hnn : ∀ i, i < 12 → nn i < 256 := fun i hi => (hn i hi).1
 obtain ⟨wa, hwa⟩ := zX (w.alloc (.cells zero16 82))
 have hba : Below w.heap.size w wa := by rw [← hwa]; exact zA
 have hZa : Blk wa w.heap.size zero16 82 := by rw [← hwa]; exact Blk.new w zero16 82
 have hKa := hK.below hba
 have HLD : Hid (wa.rangeAt g 1 (rowC 16 (h0F W))) := zh hKa.range
 have HHC : Hid ((rowC 16 (h0F W)).toArray = H) := zh hH
 have HHA : Hid (Calls Tryz.prog 59 #[.agg H, .slice oa an capa, .slice oc cn capc] wa fun e w' => e = .returned (.agg S) ∧ Below wa.heap.size wa w') := zh (by
  rw [← hH, ← hS]
  exact hash_anyG (h0F W) a c oa oc an cn capa capc wa (h0F_lt W) (ha.later hba) (hc.later hba) h2 h1 h4 h3 h6 h5)
 have HCT : Hid (∀ w', Below w.heap.size w w' → KG w' g kb bx W → Calls Tryz.prog 57 #[.pointer (some ⟨g, 0, none⟩), .slice on 12 capn, .int .u32 1] w' fun e w'' => e = .returned (.agg M) ∧ KG w'' g kb bx W ∧ Own bx w' w'') := zh fun w' hb hk => by
  rw [← hM]
  exact counter_any g kb bx W nn 1 on capn w' hk (hn.later hb) (by decide)
 have HAD : Hid (∀ w', Calls Tryz.prog 58 #[.agg S, .agg M] w' fun e w'' => e = .returned (.agg T) ∧ Below w'.heap.size w' w'') := zh fun w' => by
  rw [← hS, ← hM, ← hT]
  exact gadd_any _ _ w' (fun i _ => mulF_lt _ _ i) (cW_lt hnn)
 have HTC : Hid (∃ f, T = (rowC 16 f).toArray) := zh ⟨_, hT.symm⟩
 have HZC : Hid (∃ f, zero16 = (rowC 16 f).toArray) := zh ⟨_, rfl⟩
 have HIT : Hid ((Tryz.prog.info? 82).map (·.size) = some T.size) := zh (hT ▸ info16 _)
 have HI16 : Hid ((Tryz.prog.info? 82).map (·.size) = some (rowC 16 (h0F W)).length) := zh (by rw [rowC_len]; exact size16)
 have HS0 : Hid (KG wa g kb bx W ∧ Blk wa w.heap.size zero16 82 ∧ Below w.heap.size w wa) := zh ⟨hKa, hZa, hba⟩
 have HK := zh hK
 have HXL := zh hK.lt
 clear hK hn hc ha hnb h1 h2 h3 h4 h5 h6 hH hS hM hT hnn hba hZa hKa
 go_enter Tryz.func37, Tryz.ntmps37
 go_wp2_with (first | (refine wpList_load_mid rfl 82 (.tmp 11) rfl g 1 rfl (rowC 16 (h0F W)) _ ?_ Tryz.underlying82 rfl HI16.out ?_; exact HLD.out; rw [HHC.out]))
 refine HHA.out.mono ?_
 rintro e w1 ⟨rfl, hb1⟩
 have HS1 : Hid (KG w1 g kb bx W ∧ Blk w1 w.heap.size zero16 82 ∧ Below w.heap.size w w1) := zh (by
  obtain ⟨a1, a2, a3⟩ := HS0.out
  exact ⟨a1.below hb1, Blk.below a2 hb1 (Blk.lt a2), a3.trans (hb1.mono a3.size)⟩)
 clear hb1 HS0 HLD HHA
 go_wp2_with fail
 refine (HCT.out w1 HS1.out.2.2 HS1.out.1).mono ?_
 rintro e w2 ⟨rfl, hk2, hO2⟩
 have HS2 : Hid (KG w2 g kb bx W ∧ Blk w2 w.heap.size zero16 82 ∧ Own bx w w2) := zh (by
  obtain ⟨a1, a2, a3⟩ := HS1.out
  exact ⟨hk2, hO2.blk a2 (by have := HXL.out; omega), (Own.of_below a3).trans hO2⟩)
 clear hk2 hO2 HS1 HCT
 go_wp2_with fail
 refine (HAD.out w2).mono ?_
 rintro e w3 ⟨rfl, hb3⟩
 have HS3 : Hid (KG w3 g kb bx W ∧ Blk w3 w.heap.size zero16 82 ∧ Own bx w w3) := zh (by
  obtain ⟨a1, a2, a3⟩ := HS2.out
  exact ⟨a1.below hb3, Blk.below a2 hb3 (Blk.lt a2), a3.trans (Own.of_below hb3)⟩)
 clear hb3 HS2
 have HS4 : Hid (KG (w3.setCells w.heap.size 0 T.toList) g kb bx W ∧ Blk (w3.setCells w.heap.size 0 T.toList) w.heap.size T 82 ∧ Own bx w (w3.setCells w.heap.size 0 T.toList)) := zh (by
  obtain ⟨a1, a2, a3⟩ := HS3.out
  have hO : Own w.heap.size w3 (w3.setCells w.heap.size 0 T.toList) := Own.setCells _ _ _
  exact ⟨HK.out.low a1 (hO.below (Nat.le_refl _) a3.size), Blk.store16 a2 HTC.out HZC.out, a3.two hO (Nat.le_refl _)⟩)
 go_wp2_with (first | (refine wpList_store16 rfl (.tmp 8) (.tmp 19) rfl w.heap.size rfl T zero16 rfl HS3.out.2.1 HTC.out HZC.out ?_))
 generalize w3.setCells w.heap.size 0 T.toList = w4 at *
 refine bodyPost_ret (v := .agg T) ?_ rfl ⟨by rw [HT.out], HS4.out.1, HS4.out.2.2⟩
 exact results_cell_row Tryz.results37 _ _ w.heap.size 82 T (0, 0) _ rfl HS4.out.2.1 Tryz.underlying82 rfl HIT.out
def NBG (b off n cap i : Nat) (v : Value) : Prop := (16 * i < n ∧ v = .slice (some ⟨b, off + 16 * i, none⟩) (n - 16 * i) (cap - 16 * i)) ∨ (n ≤ 16 * i ∧ ∃ a c, v = .slice a 0 c)
def GB (Bn b off n cap i : Nat) (A : World) : Prop := ∃ v, Blk A Bn #[v] 24 ∧ NBG b off n cap i v
def RBG (Bn b off n cap i : Nat) (A B : World) : Prop := ∃ v, NBG b off n cap (i + 1) v ∧ B = A.setCell ⟨Bn, 0, none⟩ v
def EB (b off n cap i : Nat) : Array Value := #[.int .u32 ((2 + i : Nat) : Int), .slice (some ⟨b, off + 16 * i, none⟩) (min 16 (n - 16 * i)) (cap - 16 * i)]
theorem blocks_seq (Bn b off n cap N : Nat) (hN : (n + 15) / 16 = N) (hc : n ≤ cap) (hm : cap ≤ maxLen) (hs : n < 1000000) :
  Seq Tryz.prog 81 #[.pointer (some ⟨Bn, 0, none⟩)] (EB b off n cap) N (RBG Bn b off n cap) (GB Bn b off n cap) := by
 intro l J J' Jx W hG hJd hJxd hR hY h0
 have HG : Hid (∀ i A, J i A → GB Bn b off n cap i A) := zh hG
 have HR : Hid (∀ i A B, i < N → J i A → RBG Bn b off n cap i A B → J' i B) := zh hR
 have HY := zh hY
 have HN := zh (show (n + 15) / 16 = N ∧ n < 1000000 ∧ n ≤ cap ∧ cap ≤ maxLen from ⟨hN, hs, hc, hm⟩)
 clear hG hJd hJxd hR hY hN hs hc hm
 go_enter Tryz.func81, Tryz.ntmps81
 go_wp2_with fail
 go_loopw [3] (fun y wr => ∃ i : Nat, i ≤ N ∧ y = .int .u32 ((2 + i : Nat) : Int) ∧ J i wr) (fun y _ => N + 2 - (intOf y).toNat)
 case atStart => exact ⟨0, Nat.zero_le _, rfl, h0⟩
 case round =>
  obtain ⟨i, hi, rfl, hJ⟩ := hrel
  obtain ⟨v, hB, hv⟩ := HG.out i wr hJ
  have c0 : wr.cell? ⟨Bn, 0, none⟩ = some v := by rw [Blk.cell hB]; rfl
  have f0 : wr.frozen? ⟨Bn, 0, none⟩ = false := Blk.free hB _
  by_cases hlt : i < N
  ·have h16 : 16 * i < n := by have := HN.out; omega
   rcases hv with ⟨_, rfl⟩ | ⟨hx, _⟩
   rotate_left
   ·omega
   have HE : Hid (EB b off n cap i = #[.int .u32 ((2 + i : Nat) : Int), .slice (some ⟨b, off + 16 * i, none⟩) (min 16 (n - 16 * i)) (cap - 16 * i)]) := zh rfl
   have HV : Hid (∀ v, NBG b off n cap (i + 1) v → J' i (wr.setCell ⟨Bn, 0, none⟩ v)) := zh fun v h => HR.out i wr _ hlt hJ ⟨v, h, rfl⟩
   obtain ⟨o, ho⟩ := zX (off + 16 * i)
   obtain ⟨m, hm⟩ := zX (n - 16 * i)
   obtain ⟨c, hc⟩ := zX (cap - 16 * i)
   have HO := zh (show off + 16 * i = o ∧ n - 16 * i = m ∧ cap - 16 * i = c from ⟨ho, hm, hc⟩)
   rw [ho, hm, hc] at c0 HE
   have hn := HN.out
   have hmc : m ≤ c := by omega
   have hm0 : 0 < m := by omega
   have hcl : c ≤ maxLen := by omega
   have hmx : m < 1000000 := by omega
   have e0 : (0 : Int) < (m : Int) := by omega
   have HI := zh hi
   have HL := zh hlt
   clear hn ho hm hc hJ hB h16 hi hlt h0
   by_cases h6 : 16 ≤ m
   ·have e1 : (16 : Int) ≤ (m : Int) := by omega
    have e2 : (16 : Int) ≤ (c : Int) := by omega
    have HE2 : Hid (EB b off n cap i = #[.int .u32 (2 + (i : Int)), .slice (some ⟨b, o, none⟩) 16 c]) := zh (by
     rw [HE.out, show min 16 m = 16 by omega, show ((2 + i : Nat) : Int) = 2 + (i : Int) by omega])
    have HA : Hid (∀ a, (16 < m → a = some ⟨b, o + 16, none⟩) → NBG b off n cap (i + 1) (.slice a (m - 16) (c - 16))) := zh fun a ha => by
     obtain ⟨h1, h2, h3⟩ := HO.out
     by_cases h : 16 * (i + 1) < n
     ·exact Or.inl ⟨h, by rw [ha (by omega), show off + 16 * (i + 1) = o + 16 by omega, show n - 16 * (i + 1) = m - 16 by omega, show cap - 16 * (i + 1) = c - 16 by omega]⟩
     ·exact Or.inr ⟨by omega, a, c - 16, by rw [show m - 16 = 0 by omega]⟩
    clear HE
    go_upto_region 5 with fail
    generalize hv : (@ite (Option Addr) (c = 16) _ _ _) = a0
    have HJ1 := zh (HV.out (.slice a0 (m - 16) (c - 16)) (HA.out a0 (fun h => by rw [← hv, if_neg (by omega)])))
    clear hv
    generalize Value.slice a0 (m - 16) (c - 16) = V0 at *
    obtain ⟨W1, hW1⟩ := zX (wr.setCell ⟨Bn, 0, none⟩ V0)
    rw [hW1] at HJ1 ⊢
    clear hW1
    obtain ⟨fn, tmps, assign, body, hy, hRd⟩ := HY.out i W1 HL.out HJ1.out
    have HRD := zh hRd
    clear hRd f0 c0
    rw [HE2.out] at hy
    have k3 : IntKind.u32.wrap (2 + (i : Int) + 1) = ((2 + (i + 1) : Nat) : Int) := by
     have := HN.out; have := HL.out
     simp [IntKind.wrap, IntKind.bits, IntKind.signed]; omega
    refine (wpIn_wide (n := 0)).1 ?_
    gi_wp2
    refine ⟨rfl, ?_⟩
    refine HRD.out.mono ?_
    rintro e W' (⟨rfl, hJ2⟩ | ⟨rfl, hJx⟩)
    ·gi_wp2
     clear hy
     go_wp2_with fail
     go_roundw
     case rel => exact ⟨i + 1, HL.out, rfl, hJ2⟩
     case measure => have := HL.out; simp [intOf]; omega
    ·gi_wp2
     clear hy
     go_wp2_with fail
     refine bodyPost_ret (results_none rfl _ _ _) rfl ?_
     exact ⟨⟨_, rfl⟩, .inr hJx⟩
   ·have e1 : ¬ (16 : Int) ≤ (m : Int) := by omega
    have HE2 : Hid (EB b off n cap i = #[.int .u32 (2 + (i : Int)), .slice (some ⟨b, o, none⟩) m c]) := zh (by
     rw [HE.out, show min 16 m = m by omega, show ((2 + i : Nat) : Int) = 2 + (i : Int) by omega])
    have HA : Hid (∀ a k, NBG b off n cap (i + 1) (.slice a 0 k)) := zh fun a k => by
     obtain ⟨h1, h2, h3⟩ := HO.out
     exact Or.inr ⟨by omega, a, k, rfl⟩
    clear HE
    go_upto_region 5 with fail
    generalize hv : (@ite (Option Addr) (c = m) _ _ _) = a0
    have HJ1 := zh (HV.out (.slice a0 0 (c - m)) (HA.out a0 _))
    clear hv
    generalize Value.slice a0 0 (c - m) = V0 at *
    obtain ⟨W1, hW1⟩ := zX (wr.setCell ⟨Bn, 0, none⟩ V0)
    rw [hW1] at HJ1 ⊢
    clear hW1
    obtain ⟨fn, tmps, assign, body, hy, hRd⟩ := HY.out i W1 HL.out HJ1.out
    have HRD := zh hRd
    clear hRd f0 c0
    rw [HE2.out] at hy
    have k3 : IntKind.u32.wrap (2 + (i : Int) + 1) = ((2 + (i + 1) : Nat) : Int) := by
     have := HN.out; have := HL.out
     simp [IntKind.wrap, IntKind.bits, IntKind.signed]; omega
    refine (wpIn_wide (n := 0)).1 ?_
    gi_wp2
    refine ⟨rfl, ?_⟩
    refine HRD.out.mono ?_
    rintro e W' (⟨rfl, hJ2⟩ | ⟨rfl, hJx⟩)
    ·gi_wp2
     clear hy
     go_wp2_with fail
     go_roundw
     case rel => exact ⟨i + 1, HL.out, rfl, hJ2⟩
     case measure => have := HL.out; simp [intOf]; omega
    ·gi_wp2
     clear hy
     go_wp2_with fail
     refine bodyPost_ret (results_none rfl _ _ _) rfl ?_
     exact ⟨⟨_, rfl⟩, .inr hJx⟩
  ·obtain rfl : N = i := by omega
   have HJ := zh hJ
   rcases hv with ⟨hx, _⟩ | ⟨_, a, c, rfl⟩
   ·have := HN.out; omega
   clear hJ h0
   go_wp2_with fail
   go_end0
   exact ⟨⟨_, rfl⟩, .inl HJ.out⟩
set_option maxRecDepth 512
set_option maxHeartbeats 1000000
theorem wpList_mk0 {ops : Array Oper} {rest : List Oper} {o : Oper} {a : Act} {w : World} {Q : Exit → Act → World → Prop} (hgd : o.guard = none) (x y : Operand) (ho : o.op = .makeSlice 24 x y) (c base : Nat) (hx : a.eval x = .int .i64 0) (hy : a.eval y = .int .i64 (c : Int)) (hc : c < 1000000000000) (hb : base ≤ w.heap.size)
  (h : ∀ w', (∀ f, Grow w' base (.slice (some ⟨w.heap.size, 0, none⟩) 0 c) 0 f) → w.grownBy w' none → wpList Tryz.prog ops Q rest (a.put o.dst (.slice (some ⟨w.heap.size, 0, none⟩) 0 c)) w') :
  wpList Tryz.prog ops Q (o :: rest) a w := by
 obtain ⟨i0, hi, hz0, hz1, hz2⟩ := info_parts info_u8
 obtain ⟨w', hr, hown, hg⟩ := run_make_own (P := Tryz.prog) w base 24 5 i0 (.int .u8 0) 1 Tryz.underlying24 hi hz0 hz1 .i64 .i64 c (by rw [hz2]; omega) (by unfold maxLen; omega) hb
 refine wpList_plain hgd fun K hK => ?_
 unfold Oper.wp execOp
 simp only [ho, hx, hy, Sem.run_bind, hr, Result.andThen_ok, Sem.run_pure]
 exact hK _ _ (h w' (fun f => hown) hg)
structure CP (b7 : Nat) (w0 : World) (g kb bx : Nat) (W nn p : Nat → Nat) (n : Nat) (on : Option Addr) (capn : Nat) (v : Value) (k : Nat) (A : World) : Prop where
 kp : Blk A w0.heap.size #[.pointer (some ⟨g, 0, none⟩)] 54
 np : Blk A (w0.heap.size + 1) #[.slice on 12 capn] 24
 grow : Grow A (w0.heap.size + 2) v k (cphF W nn p)
 apart : ∀ q, v.ownBlock = some q → q < b7 ∨ b7 + 1 < q
 key : KG A g kb bx W
 own : Own bx w0 A
 start : KG w0 g kb bx W
 place : w0.heap.size + 2 < b7 ∧ b7 + 1 < A.heap.size
section
variable {b7 g kb bx n capn k : Nat} {w0 A B : World} {W nn p : Nat → Nat} {on : Option Addr} {v : Value}
theorem CP.other (h : CP b7 w0 g kb bx W nn p n on capn v k A) {c : Nat} (hO : Own c A B) (hc : w0.heap.size + 2 ≤ c) (hn : ∀ q, v.ownBlock = some q → q ≠ c) : CP b7 w0 g kb bx W nn p n on capn v k B := by
 have hp := h.place
 refine ⟨hO.blk h.kp (by omega), hO.blk h.np (by omega), h.grow.ownN hO hn, h.apart, h.start.low h.key (hO.below (by omega) (by omega)), h.own.two hO (by omega), h.start, hp.1, by have := hO.size; omega⟩
theorem CP.var (h : CP b7 w0 g kb bx W nn p n on capn v k A) {c : Nat} (hO : Own c A B) (hc : c = b7 ∨ c = b7 + 1) : CP b7 w0 g kb bx W nn p n on capn v k B :=
 h.other hO (by have := h.place; omega) (fun q hq => by have := h.apart q hq; omega)
theorem CP.later (h : CP b7 w0 g kb bx W nn p n on capn v k A) (hb : Below A.heap.size A B) : CP b7 w0 g kb bx W nn p n on capn v k B := by
 have hp := h.place
 exact h.other (Own.of_below hb : Own A.heap.size A B) (by omega) (fun q hq => by have := h.grow.lt q hq; omega)
theorem CP.asked (h : CP b7 w0 g kb bx W nn p n on capn v k A) (hO : Own bx A B) (hK : KG B g kb bx W) : CP b7 w0 g kb bx W nn p n on capn v k B := by
 have hp := h.place
 have hl := h.start.lt
 refine ⟨hO.blk h.kp (by omega), hO.blk h.np (by omega), h.grow.ownN hO (fun q hq => by have := h.grow.lt q hq; omega), h.apart, hK, h.own.trans hO, h.start, hp.1, by have := hO.size; omega⟩
theorem CP.turned (h : CP b7 w0 g kb bx W nn p n on capn v k A) {b : Nat} (hT : Turned b A B) (hb : w0.heap.size ≤ b) : CP b7 w0 g kb bx W nn p n on capn v k B := by
 have hp := h.place
 refine ⟨hT.blk h.kp, hT.blk h.np, hT.grow h.grow, h.apart, ⟨hT.blk h.key.me, hT.blk h.key.key, ?_, h.key.gne, h.key.kne⟩, h.own.then_below (hT.below.mono hb) (Nat.le_refl _), h.start, hp.1, by rw [hT.size]; exact hp.2⟩
 rcases h.key.box with t | t
 ·exact .inl ⟨hT.blk t.1, t.2⟩
 ·exact .inr ⟨hT.blk t.1, t.2⟩
theorem CP.drew (h : CP b7 w0 g kb bx W nn p n on capn v k A) : CP b7 w0 g kb bx W nn p n on capn v k A.drew := h.later ⟨rfl, rfl, rfl, Nat.le_refl _, fun _ _ => rfl⟩
theorem CP.grew (h : CP b7 w0 g kb bx W nn p n on capn v k A) {v' : Value} (hg : A.grownBy B v.ownBlock) (hG : Grow B (w0.heap.size + 2) v' (k + 1) (cphF W nn p)) (ho : v'.ownBlock = v.ownBlock ∨ ∃ q, v'.ownBlock = some q ∧ b7 + 1 < q) : CP b7 w0 g kb bx W nn p n on capn v' (k + 1) B := by
 have hp := h.place
 have hO := own_of_grown hg
 have hge := own_ge h.grow (by omega : w0.heap.size + 2 ≤ A.heap.size)
 refine ⟨hO.blk h.kp (by omega), hO.blk h.np (by omega), hG, fun q hq => ?_, h.start.low h.key (hO.below (by omega) (by omega)), h.own.two hO (by omega), h.start, hp.1, by have := hO.size; omega⟩
 rcases ho with e | ⟨q', e, hq'⟩
 ·exact h.apart q (e ▸ hq)
 ·rw [e] at hq; cases hq; exact .inr hq'
theorem CP.grew_blk (h : CP b7 w0 g kb bx W nn p n on capn v k A) (hg : A.grownBy B v.ownBlock) {c : Nat} {C : Array Value} {t : TypeId} (hc : Blk A c C t) (hn : ∀ q, v.ownBlock = some q → q ≠ c) : Blk B c C t :=
 (own_of_grown hg).blk hc (by
  cases e : v.ownBlock with
  | none => simp; have := Blk.lt hc; omega
  | some q => simp; exact fun h' => hn q e h'.symm)
end
theorem GB.turned {Bn b off n cap i c : Nat} {A B : World} (h : GB Bn b off n cap i A) (hT : Turned c A B) : GB Bn b off n cap i B := by
 obtain ⟨v, h1, h2⟩ := h; exact ⟨v, hT.blk h1, h2⟩
theorem GB.own {Bn b off n cap i c : Nat} {A B : World} (h : GB Bn b off n cap i A) (hO : Own c A B) (hn : Bn ≠ c) : GB Bn b off n cap i B := by
 obtain ⟨v, h1, h2⟩ := h; exact ⟨v, hO.blk h1 hn, h2⟩
theorem GB.later {Bn b off n cap i : Nat} {A B : World} (h : GB Bn b off n cap i A) (hb : Below A.heap.size A B) : GB Bn b off n cap i B := by
 obtain ⟨v, h1, h2⟩ := h; exact ⟨v, Blk.below h1 hb (Blk.lt h1), h2⟩
theorem GB.drew {Bn b off n cap i : Nat} {A : World} (h : GB Bn b off n cap i A) : GB Bn b off n cap i A.drew := by
 obtain ⟨v, h1, h2⟩ := h; exact ⟨v, h1, h2⟩
theorem blocks_any (oa : Option Addr) (n cap : Nat) (w : World) : Calls Tryz.prog 56 #[.slice oa n cap] w fun e w' => e = .returned (.func (.func 81) #[] #[.pointer (some ⟨w.heap.size, 0, none⟩)]) ∧ w' = w.alloc (.cells #[.slice oa n cap] 24) := by
 go_enter Tryz.func56, Tryz.ntmps56
 go_wp2_with fail
 go_ret
 exact ⟨rfl, rfl⟩
end Go.Proofs.YtncfocjmdecapaaGreatDoor
