/- engine.Decode. -/
import Derived.Test.YtkaddilgegimjaaDoorPk4
import Derived.Test.YtkaddilgegimjaaDoorEkA
import Derived.Test.YtkaddilgegimjaaDoorEn7
import Derived.Deep.LoopGhost
import Derived.Deep.DeepCutAuto
namespace Go.Proofs.YtkaddilgegimjaaDoor
set_option linter.unusedVariables false
set_option linter.unusedSimpArgs false
open Go.RowKit

/-- What is read, one behind the other. -/
structure Dec where
  p : Nat
  bad : Bool
def dcN (F : Nat → Nat) (N : Nat) (d : Dec) (k : Nat) : Dec := ⟨nxt N d.p k, bd N d.p k d.bad⟩
def d1 (F : Nat → Nat) (N : Nat) (b : Bool) : Dec := ⟨nxt N 0 2, bd N 0 2 false || !b⟩
def d2 (F : Nat → Nat) (N : Nat) (b : Bool) : Dec := dcN F N (d1 F N b) 1
def d3 (F : Nat → Nat) (N : Nat) (b : Bool) : Dec := dcN F N (d2 F N b) 4
def d4 (F : Nat → Nat) (N : Nat) (b : Bool) : Dec := dcN F N (d3 F N b) 1
def dMax (F : Nat → Nat) (N : Nat) (b : Bool) : Nat := vl F N (d1 F N b).p 1
def dLast (F : Nat → Nat) (N : Nat) (b : Bool) : Nat := vl F N (d2 F N b).p 4
def dCnt (F : Nat → Nat) (N : Nat) (b : Bool) : Nat := vl F N (d3 F N b).p 1
/-- Behind one version more. -/
def dA (F : Nat → Nat) (N : Nat) (d : Dec) : Dec := dcN F N d 8
def dS (F : Nat → Nat) (N : Nat) (d : Dec) : Dec := dcN F N (dA F N d) 1
def dL (F : Nat → Nat) (N : Nat) (d : Dec) : Nat := vl F N (dS F N d).p 1
def dB (F : Nat → Nat) (N : Nat) (d : Dec) : Dec := dcN F N (dcN F N (dS F N d) 1) (dL F N d)
def dK (F : Nat → Nat) (N : Nat) (b : Bool) : Nat → Dec
  | 0 => d4 F N b
  | k + 1 => dB F N (dK F N b k)
def dV (F : Nat → Nat) (N : Nat) (b : Bool) (k : Nat) : Ver :=
  let d := dK F N b k
  ⟨(dLast F N b + 4294967296 - dCnt F N b + 1 + k) % 4294967296, dL F N d, gotF F N (nxt N (dS F N d).p 1) (dL F N d), vl F N d.p 8, (vl F N (dA F N d).p 1 : Nat)⟩

theorem Bytes.ownr {w w' : World} {r len : Nat} {od : Option Addr} {f : Nat → Nat} {C : Array Value} {t : TypeId} (h : Bytes w od len f) (hB : Blk w r C t) (hn : ∀ (j : Nat) (z : Int), C[j]? ≠ some (Value.int .u8 z)) (hO : Own r w w') : Bytes w' od len f := fun i hi => by
  obtain ⟨h1, b, off, e, hc⟩ := h i hi
  refine ⟨h1, b, off, e, hO.cell hc fun e2 => ?_⟩
  have e3 : b = r := e2
  subst e3
  rw [hB.cell] at hc
  exact hn _ _ hc
theorem GV.ownr {w w' : World} {r base n : Nat} {v : Value} {V : Nat → Ver} {C : Array Value} {t : TypeId} (h : GV w base v n V) (hB : Blk w r C t) (hn : ∀ (j : Nat) (z : Int), C[j]? ≠ some (Value.int .u8 z)) (hO : Own r w w') (hb : r < base) : GV w' base v n V := by
  obtain ⟨D, h1, h2⟩ := h
  exact ⟨D, owns_own h1 hO hb, fun i hi => by
    obtain ⟨oa, cap, hC, hBy, hr⟩ := (h2 i hi).1
    exact ⟨⟨oa, cap, hC, hBy.ownr hB hn hO, hr⟩, (h2 i hi).2⟩⟩
theorem Rd.blk {w : World} {r N p : Nat} {F : Nat → Nat} {bad : Bool} (h : Rd w r N p F bad) : ∃ o n c, Blk w r #[.slice o n c, .bool bad] 209 := by
  obtain ⟨_, o, c, h, _⟩ := h
  exact ⟨o, _, c, h⟩


theorem Rd.set_other {w : World} {r N p b k : Nat} {F : Nat → Nat} {bad : Bool} {C : Array Value} {t : TypeId} {v : Value} (h : Rd w r N p F bad) (hB : Blk w b C t) (hn : ∀ (j : Nat) (z : Int), C[j]? ≠ some (Value.int .u8 z)) (hne : r ≠ b) : Rd (w.setCell ⟨b, k, none⟩ v) r N p F bad := by
  obtain ⟨h0, o, c, h1, h2, h3⟩ := h
  exact ⟨h0, o, c, ((Own.refl b w).set k v).blk h1 hne, h2.set_apart hB hn, h3⟩
/-- What holds while a secret is read. -/
def ED (w0 : World) (r bs N : Nat) (F : Nat → Nat) (d : Dec) (a : Option Addr) (n c : Nat) (x y : Int) (wr : World) : Prop := Below w0.heap.size w0 wr ∧ w0.heap.size < r ∧ r < bs ∧ Blk wr w0.heap.size #[.slice none 0 0, .int .u32 0, .int .i64 0] 79 ∧ Blk wr bs #[.slice a n c, .int .u32 x, .int .i64 y] 79 ∧ Rd wr r N d.p F d.bad
theorem ED.own {w0 wr w' : World} {r bs N n c p : Nat} {F : Nat → Nat} {d : Dec} {a : Option Addr} {x y : Int} {bad : Bool} (h : ED w0 r bs N F d a n c x y wr) (hR : Rd w' r N p F bad) (hO : Own r wr w') : ED w0 r bs N F ⟨p, bad⟩ a n c x y w' := by
  obtain ⟨h1, h2, h3, h4, h5, h6⟩ := h
  have := h4.lt
  exact ⟨h1.trans (hO.below (by omega) (by omega)), h2, h3, hO.blk h4 (by omega), hO.blk h5 (by omega), hR⟩
theorem ED.later {w0 wr w' : World} {r bs N n c : Nat} {F : Nat → Nat} {d : Dec} {a : Option Addr} {x y : Int} (h : ED w0 r bs N F d a n c x y wr) (hb : Below wr.heap.size wr w') : ED w0 r bs N F d a n c x y w' := by
  obtain ⟨h1, h2, h3, h4, h5, h6⟩ := h
  have := h4.lt
  exact ⟨h1.trans (hb.mono (by omega)), h2, h3, h4.below hb h4.lt, h5.below hb h5.lt, h6.later hb⟩
theorem ED.set0 {w0 wr : World} {r bs N n c : Nat} {F : Nat → Nat} {d : Dec} {a : Option Addr} {x y : Int} (h : ED w0 r bs N F d a n c x y wr) (a' : Option Addr) (n' c' : Nat) : ED w0 r bs N F d a' n' c' x y (wr.setCell ⟨bs, 0, none⟩ (.slice a' n' c')) := by
  obtain ⟨h1, h2, h3, h4, h5, h6⟩ := h
  refine ⟨h1.setCell (by show _ ≤ bs; omega) _, h2, h3, h4.set_other (by show _ ≠ bs; omega) _, by simpa using h5.set 0 (.slice a' n' c'), h6.set_other h5 no_u8_3 (by omega)⟩
theorem ED.set1 {w0 wr : World} {r bs N n c : Nat} {F : Nat → Nat} {d : Dec} {a : Option Addr} {x y : Int} (h : ED w0 r bs N F d a n c x y wr) (x' : Int) : ED w0 r bs N F d a n c x' y (wr.setCell ⟨bs, 1, none⟩ (.int .u32 x')) := by
  obtain ⟨h1, h2, h3, h4, h5, h6⟩ := h
  refine ⟨h1.setCell (by show _ ≤ bs; omega) _, h2, h3, h4.set_other (by show _ ≠ bs; omega) _, by simpa using h5.set 1 (.int .u32 x'), h6.set_other h5 no_u8_3 (by omega)⟩
theorem ED.set2 {w0 wr : World} {r bs N n c : Nat} {F : Nat → Nat} {d : Dec} {a : Option Addr} {x y : Int} (h : ED w0 r bs N F d a n c x y wr) (y' : Int) : ED w0 r bs N F d a n c x y' (wr.setCell ⟨bs, 2, none⟩ (.int .i64 y')) := by
  obtain ⟨h1, h2, h3, h4, h5, h6⟩ := h
  refine ⟨h1.setCell (by show _ ≤ bs; omega) _, h2, h3, h4.set_other (by show _ ≠ bs; omega) _, by simpa using h5.set 2 (.int .i64 y'), h6.set_other h5 no_u8_3 (by omega)⟩


theorem Rd.belowB {w w' : World} {r N p B : Nat} {F : Nat → Nat} {bad : Bool} (h : Rd w r N p F bad) (hb : Below B w w') (hr : r < B) : Rd w' r N p F bad := by
  obtain ⟨h0, o, c, h1, h2, h3, h4, h5, h6⟩ := h
  refine ⟨h0, o, c, h1.below hb hr, fun i hi => ?_, h3, h4, h5, h6⟩
  obtain ⟨g1, b, off, e, hc⟩ := h2 i hi
  have := h6 _ e (by omega)
  exact ⟨g1, b, off, e, cell_belowB hb (by show b < B; have h7 : b < r := this; omega) hc⟩
theorem ED.belowB {w0 wr w' : World} {r bs N n c B : Nat} {F : Nat → Nat} {d : Dec} {a : Option Addr} {x y : Int} (h : ED w0 r bs N F d a n c x y wr) (hb : Below B wr w') (hB : bs < B) : ED w0 r bs N F d a n c x y w' := by
  obtain ⟨h1, h2, h3, h4, h5, h6⟩ := h
  exact ⟨h1.trans (hb.mono (by omega)), h2, h3, h4.below hb (by omega), h5.below hb hB, h6.belowB hb (by omega)⟩
/-- While a version is read. -/
def EV (w0 : World) (r bs N : Nat) (F : Nat → Nat) (d : Dec) (o : Option Addr) (k c : Nat) (x y : Int) (base : Nat) (V : Nat → Ver) (bv : Nat) (n0 : Int) (a1 : Option Addr) (n1 c1 : Nat) (t1 s1 : Int) (wr : World) : Prop :=
  ED w0 r bs N F d o k c x y wr ∧ (bs < base ∧ base ≤ bv ∧ bs < bv) ∧ GV wr base (.slice o k c) k V ∧ (∀ q, (Value.slice o k c).ownBlock = some q → q < bv) ∧ Blk wr bv #[.int .u32 n0, .slice a1 n1 c1, .int .u64 t1, .int .i64 s1] 86
theorem EV.own {w0 wr w' : World} {r bs N k c base bv n1 c1 p : Nat} {F : Nat → Nat} {d : Dec} {o a1 : Option Addr} {x y n0 t1 s1 : Int} {V : Nat → Ver} {bad : Bool} (h : EV w0 r bs N F d o k c x y base V bv n0 a1 n1 c1 t1 s1 wr) (hR : Rd w' r N p F bad) (hO : Own r wr w') : EV w0 r bs N F ⟨p, bad⟩ o k c x y base V bv n0 a1 n1 c1 t1 s1 w' := by
  obtain ⟨h1, h2, h3, h4, h5⟩ := h
  have hrb := h1.2.2.1
  obtain ⟨_, _, _, hb⟩ := h1.2.2.2.2.2.blk
  exact ⟨h1.own hR hO, h2, h3.ownr hb no_u8_rd hO (by omega), h4, hO.blk h5 (by omega)⟩
theorem ED.seto {w0 wr : World} {r bs N n c bv j : Nat} {F : Nat → Nat} {d : Dec} {a : Option Addr} {x y : Int} {C : Array Value} {t : TypeId} {v : Value} (h : ED w0 r bs N F d a n c x y wr) (hB : Blk wr bv C t) (hn : ∀ (j : Nat) (z : Int), C[j]? ≠ some (Value.int .u8 z)) (hbv : bs < bv) : ED w0 r bs N F d a n c x y (wr.setCell ⟨bv, j, none⟩ v) := by
  obtain ⟨h1, h2, h3, h4, h5, h6⟩ := h
  exact ⟨h1.setCell (by show _ ≤ bv; omega) _, h2, h3, h4.set_other (by show _ ≠ bv; omega) _, h5.set_other (by show _ ≠ bv; omega) _, h6.set_other hB hn (by omega)⟩
theorem EV.setv {w0 wr : World} {r bs N k c base bv n1 c1 n1' c1' j : Nat} {F : Nat → Nat} {d : Dec} {o a1 a1' : Option Addr} {x y n0 t1 s1 t1' s1' : Int} {V : Nat → Ver} {v : Value} (h : EV w0 r bs N F d o k c x y base V bv n0 a1 n1 c1 t1 s1 wr) (hv : (#[Value.int .u32 n0, .slice a1 n1 c1, .int .u64 t1, .int .i64 s1] : Array Value).setIfInBounds j v = #[.int .u32 n0, .slice a1' n1' c1', .int .u64 t1', .int .i64 s1']) : EV w0 r bs N F d o k c x y base V bv n0 a1' n1' c1' t1' s1' (wr.setCell ⟨bv, j, none⟩ v) := by
  obtain ⟨h1, h2, h3, h4, h5⟩ := h
  refine ⟨h1.seto h5 no_u8_4 h2.2.2, h2, h3.set_ne h5 no_u8_4 (fun e => by have := h4 bv e; omega), h4, ?_⟩
  have := h5.set j v
  rw [hv] at this; exact this

/-- What is read is a secret. -/
def DecOk (F : Nat → Nat) (N : Nat) (b : Bool) : Prop := (!(dK F N b (dCnt F N b)).bad && decide ((dK F N b (dCnt F N b)).p = N)) = true ∧ SecOk (dCnt F N b) (dLast F N b) (dMax F N b : Int) (dV F N b)
def DecPost (w : World) (F : Nat → Nat) (N : Nat) (b : Bool) (e : Ending) (w' : World) : Prop :=
  (¬ DecOk F N b ∧ e = .returned (.tuple #[.agg #[.slice none 0 0, .int .u32 0, .int .i64 0], .iface 146 (.int .i64 4)]) ∨
    DecOk F N b ∧ ∃ o c base, e = .returned (.tuple #[.agg #[.slice o (dCnt F N b) c, .int .u32 (dLast F N b : Int), .int .i64 (dMax F N b : Int)], .nilIface]) ∧ w.heap.size < base ∧ GV w' base (.slice o (dCnt F N b) c) (dCnt F N b) (dV F N b)) ∧ Below w.heap.size w w'

set_option maxRecDepth 100000 in
set_option maxHeartbeats 8000000 in
theorem edec_any (od : Option Addr) (N cap : Nat) (F : Nat → Nat) (b : Bool) (w : World) (hB : Bytes w od N F) (hno : od = none → cap = 0) (hc : N ≤ cap) (hm : cap ≤ maxLen)
    (hb : ((strF 2 (gotF F N 0 2)).toList == (⟨#[115, 101]⟩ : ByteArray).toList) = b) :
    Calls Tryd.prog 59 #[.slice od N cap] w fun e w' => DecPost w F N b e w' := by
  have HF := Lib.hid fun i (hi : i < N) => (hB i hi).1
  have HB := Lib.hid hB
  have HNO := Lib.hid hno
  have HC := Lib.hid hc
  have HM := Lib.hid hm
  have HBb := Lib.hid hb
  clear hB hno hc hm hb
  go_enter Tryd.func59, Tryd.ntmps59
  go_wp2_with fail
  refine (read_any od N cap F _ (HB.out.alloc _) HNO.out HC.out HM.out).mono ?_
  rintro e w1 ⟨rfl, hR1, hb1⟩
  have HR1 : Hid (Rd w1 (w.heap.size + 1) N 0 F false) := Lib.hid (by simpa using hR1)
  have hw0 : Blk w1 w.heap.size #[.slice none 0 0, .int .u32 0, .int .i64 0] 79 := (Blk.new w _ _).below hb1 (by simp)
  have HW0 := Lib.hid hw0
  have HB1 : Hid (Below w.heap.size w w1) := Lib.hid (((Below.refl _ _).alloc (Nat.le_refl _) (.cells #[.slice none 0 0, .int .u32 0, .int .i64 0] 79)).trans (hb1.mono (by simp)))
  clear hR1 hb1 hw0
  go_wp2_with fail
  refine (rmark_any (w.heap.size + 1) N 0 F false w1 ⟨#[115, 101]⟩ 2 rfl (by decide) HR1.out HF.out b HBb.out).mono ?_
  rintro e w2 ⟨rfl, hR2, hO2⟩
  have hE2 : ED w (w.heap.size + 1) w2.heap.size N F (d1 F N b) none 0 0 0 0 (w2.alloc (.cells #[.slice none 0 0, .int .u32 0, .int .i64 0] 79)) := ⟨((HB1.out.trans (hO2.below (by omega) (by have := HB1.out.size; omega))).alloc (by have := HB1.out.size; have := hO2.size; omega) _), by omega, by have := hR2.lt; omega, (hO2.blk HW0.out (by omega)).alloc _, Blk.new _ _ _, hR2.later ((Below.refl _ _).alloc (Nat.le_refl _) _)⟩
  have HE2 := Lib.hid hE2
  clear hR2 hO2 hE2 HR1 HB1 HW0
  go_wp2_with fail
  go_wp2_with fail
  refine (rnum_any (w.heap.size + 1) N (d1 F N b).p 1 F (d1 F N b).bad _ HE2.out.2.2.2.2.2 HF.out (by decide) (by decide)).mono ?_
  rintro e w3 ⟨rfl, hR, hO⟩
  have hE : ED w (w.heap.size + 1) w2.heap.size N F (d2 F N b) none 0 0 0 0 w3 := HE2.out.own hR hO
  obtain ⟨mx, hmx⟩ : ∃ x, vl F N (d1 F N b).p 1 = x := ⟨_, rfl⟩
  have hmxb : mx < 256 := by have h := vl_lt (s := 1) HF.out HE2.out.2.2.2.2.2.bytes; rw [hmx] at h; simpa using h
  rw [hmx]
  have mxb : (mx : Int) < 256 := by omega
  have Hmx := Lib.hid hmx
  have Hmxb := Lib.hid hmxb
  have c2 : w3.cell? ⟨w2.heap.size, 2, none⟩ = some (.int .i64 0) := hE.2.2.2.2.1.cell 2
  have z2 : w3.frozen? ⟨w2.heap.size, 2, none⟩ = false := hE.2.2.2.2.1.free 2
  have HE3 := Lib.hid (hE.set2 (mx : Int))
  clear hR hO hE hmx hmxb HE2
  go_wp2_with fail
  refine (rnum_any (w.heap.size + 1) N (d2 F N b).p 4 F (d2 F N b).bad _ HE3.out.2.2.2.2.2 HF.out (by decide) (by decide)).mono ?_
  rintro e w4 ⟨rfl, hR, hO⟩
  have hE : ED w (w.heap.size + 1) w2.heap.size N F (d3 F N b) none 0 0 0 (mx : Int) w4 := HE3.out.own hR hO
  obtain ⟨la, hla⟩ : ∃ x, vl F N (d2 F N b).p 4 = x := ⟨_, rfl⟩
  have hlab : la < 4294967296 := by have h := vl_lt (s := 4) HF.out HE3.out.2.2.2.2.2.bytes; rw [hla] at h; simpa using h
  rw [hla]
  have lab : (la : Int) < 4294967296 := by omega
  have Hla := Lib.hid hla
  have Hlab := Lib.hid hlab
  have c1 : w4.cell? ⟨w2.heap.size, 1, none⟩ = some (.int .u32 0) := hE.2.2.2.2.1.cell 1
  have z1 : w4.frozen? ⟨w2.heap.size, 1, none⟩ = false := hE.2.2.2.2.1.free 1
  have HE4 := Lib.hid (hE.set1 (la : Int))
  clear hR hO hE hla hlab HE3 c2 z2
  go_wp2_with fail
  refine (rnum_any (w.heap.size + 1) N (d3 F N b).p 1 F (d3 F N b).bad _ HE4.out.2.2.2.2.2 HF.out (by decide) (by decide)).mono ?_
  rintro e w5 ⟨rfl, hR, hO⟩
  have hE : ED w (w.heap.size + 1) w2.heap.size N F (d4 F N b) none 0 0 (la : Int) (mx : Int) w5 := HE4.out.own hR hO
  obtain ⟨cn, hcn⟩ : ∃ x, vl F N (d3 F N b).p 1 = x := ⟨_, rfl⟩
  have hcnb : cn < 256 := by have h := vl_lt (s := 1) HF.out HE4.out.2.2.2.2.2.bytes; rw [hcn] at h; simpa using h
  rw [hcn]
  have cnb : (cn : Int) < 256 := by omega
  have Hcn := Lib.hid hcn
  have Hcnb := Lib.hid hcnb
  have HE5 := Lib.hid hE
  clear hR hO hE hcn hcnb HE4 c1 z1
  go_wp2_with fail
  go_loopw [25] (fun i wr => ∃ (k : Nat) (o : Option Addr) (c base : Nat), k ≤ cn ∧ i = .int .u32 (k : Int) ∧ ED w (w.heap.size + 1) w2.heap.size N F (dK F N b k) o k c (la : Int) (mx : Int) wr ∧ w2.heap.size < base ∧ base ≤ wr.heap.size ∧ GV wr base (.slice o k c) k (dV F N b)) (fun i _ => cn - (intOf i).toNat)
  case atStart => exact ⟨0, none, 0, w5.heap.size, Nat.zero_le _, rfl, HE5.out, HE5.out.2.2.2.2.1.lt, Nat.le_refl _, GV.nil _ _ _⟩
  case round =>
    obtain ⟨k, o, c, base, hk, rfl, hE, hb1, hb2, hG⟩ := hrel
    have HE := Lib.hid hE
    have HG := Lib.hid hG
    have HBS := Lib.hid hb1
    have HBS2 := Lib.hid hb2
    have l1 : wr.cell? ⟨w2.heap.size, 1, none⟩ = some (.int .u32 (la : Int)) := hE.2.2.2.2.1.cell 1
    clear hE hG hb1 hb2 HE5
    by_cases hlt : k < cn
    · have k1 : (k : Int) < (cn : Int) := by omega
      obtain ⟨X, hX⟩ : ∃ X : Nat, (la + 4294967296 - cn + 1 + k) % 4294967296 = X := ⟨_, rfl⟩
      have hx : ((la : Int) - (cn : Int) + 1 + (k : Int)) % 4294967296 = (X : Int) := by have := Hlab.out; have := Hcnb.out; omega
      have HX := Lib.hid hX
      clear hX
      have hE0 : EV w (w.heap.size + 1) w2.heap.size N F (dK F N b k) o k c (la : Int) (mx : Int) base (dV F N b) wr.heap.size (X : Int) none 0 0 0 0 (wr.alloc (.cells #[.int .u32 (X : Int), .slice none 0 0, .int .u64 0, .int .i64 0] 86)) :=
        ⟨HE.out.later ((Below.refl _ _).alloc (Nat.le_refl _) _), ⟨HBS.out, HBS2.out, by have := HBS.out; have := HBS2.out; omega⟩, HG.out.later ((Below.refl _ _).alloc (Nat.le_refl _) _), fun q hq => (HG.out.ownb q hq).2, Blk.new _ _ _⟩
      have HE0 := Lib.hid hE0
      clear hE0
      go_wp2_with fail
      refine (rnum_any (w.heap.size + 1) N (dK F N b k).p 8 F (dK F N b k).bad _ HE0.out.1.2.2.2.2.2 HF.out (by decide) (by decide)).mono ?_
      rintro e w6 ⟨rfl, hR, hO⟩
      have hE := HE0.out.own hR hO
      obtain ⟨at1, hat1⟩ : ∃ x, vl F N (dK F N b k).p 8 = x := ⟨_, rfl⟩
      rw [hat1]
      have c2 : w6.cell? ⟨wr.heap.size, 2, none⟩ = some (.int .u64 0) := hE.2.2.2.2.cell 2
      have z2 : w6.frozen? ⟨wr.heap.size, 2, none⟩ = false := hE.2.2.2.2.free 2
      have HE1 := Lib.hid (EV.setv (j := 2) (v := .int .u64 (at1 : Int)) hE rfl)
      have HAT := Lib.hid hat1
      clear hR hO hE hat1 HE0
      go_wp2_with fail
      refine (rnum_any (w.heap.size + 1) N (dA F N (dK F N b k)).p 1 F (dA F N (dK F N b k)).bad _ HE1.out.1.2.2.2.2.2 HF.out (by decide) (by decide)).mono ?_
      rintro e w7 ⟨rfl, hR, hO⟩
      have hE := HE1.out.own hR hO
      obtain ⟨st1, hst1⟩ : ∃ x, vl F N (dA F N (dK F N b k)).p 1 = x := ⟨_, rfl⟩
      have hstb : st1 < 256 := by have h := vl_lt (s := 1) HF.out HE1.out.1.2.2.2.2.2.bytes; rw [show (⟨nxt N (dK F N b k).p 8, bd N (dK F N b k).p 8 (dK F N b k).bad⟩ : Dec) = dA F N (dK F N b k) from rfl, hst1] at h; simpa using h
      rw [hst1]
      have s1b : (st1 : Int) < 256 := by omega
      have c3 : w7.cell? ⟨wr.heap.size, 3, none⟩ = some (.int .i64 0) := hE.2.2.2.2.cell 3
      have z3 : w7.frozen? ⟨wr.heap.size, 3, none⟩ = false := hE.2.2.2.2.free 3
      have HE2 := Lib.hid (EV.setv (j := 3) (v := .int .i64 (st1 : Int)) hE rfl)
      have HST := Lib.hid hst1
      clear hR hO hE hst1 hstb HE1 c2 z2
      go_wp2_with fail
      refine (rbytes_any (w.heap.size + 1) N (dS F N (dK F N b k)).p F (dS F N (dK F N b k)).bad _ HE2.out.1.2.2.2.2.2 HF.out).mono ?_
      rintro e w8 ⟨g, rfl, hg, hRw, hR, hO⟩
      have hE : EV w (w.heap.size + 1) w2.heap.size N F (dB F N (dK F N b k)) o k c (la : Int) (mx : Int) base (dV F N b) wr.heap.size (X : Int) none 0 0 (at1 : Int) (st1 : Int) w8 := HE2.out.own hR hO
      have hbts := Row.bytes hRw (gotF_lt HF.out (by unfold nxt; have := HE2.out.1.2.2.2.2.2.bytes; split <;> omega))
      have hv : dV F N b k = ⟨X, vl F N (dS F N (dK F N b k)).p 1, gotF F N (nxt N (dS F N (dK F N b k)).p 1) (vl F N (dS F N (dK F N b k)).p 1), at1, (st1 : Int)⟩ := by
        unfold dV
        simp only [dLast, dCnt, dL]
        rw [Hla.out, Hcn.out, HX.out, HAT.out, HST.out]
      have hLb : vl F N (dS F N (dK F N b k)).p 1 < 256 := by
        have h : vl F N (dS F N (dK F N b k)).p 1 < 256 ^ 1 := vl_lt HF.out HE2.out.1.2.2.2.2.2.bytes
        simpa using h
      have hbv := HE2.out.2.2.2.2.lt
      obtain ⟨L1, hL1⟩ : ∃ x, vl F N (dS F N (dK F N b k)).p 1 = x := ⟨_, rfl⟩
      rw [hL1] at hv hbts hLb ⊢
      obtain ⟨G1, hG1⟩ : ∃ x, gotF F N (nxt N (dS F N (dK F N b k)).p 1) L1 = x := ⟨_, rfl⟩
      rw [hG1] at hv hbts
      have hg2 := hE.2.2.2.2.lt
      have hs78 := hO.size
      have c1 : w8.cell? ⟨wr.heap.size, 1, none⟩ = some (.slice none 0 0) := hE.2.2.2.2.cell 1
      have z1 : w8.frozen? ⟨wr.heap.size, 1, none⟩ = false := hE.2.2.2.2.free 1
      have hE3 := EV.setv (j := 1) (v := .slice (some ⟨g, 0, none⟩) L1 L1) hE rfl
      have y0 : (w8.setCell ⟨wr.heap.size, 1, none⟩ (.slice (some ⟨g, 0, none⟩) L1 L1)).cell? ⟨w2.heap.size, 0, none⟩ = some (.slice o k c) := hE3.1.2.2.2.2.1.cell 0
      have v0 : (w8.setCell ⟨wr.heap.size, 1, none⟩ (.slice (some ⟨g, 0, none⟩) L1 L1)).cell? ⟨wr.heap.size, 0, none⟩ = some (.int .u32 (X : Int)) := hE3.2.2.2.2.cell 0
      have v1 : (w8.setCell ⟨wr.heap.size, 1, none⟩ (.slice (some ⟨g, 0, none⟩) L1 L1)).cell? ⟨wr.heap.size, 1, none⟩ = some (.slice (some ⟨g, 0, none⟩) L1 L1) := hE3.2.2.2.2.cell 1
      have v2 : (w8.setCell ⟨wr.heap.size, 1, none⟩ (.slice (some ⟨g, 0, none⟩) L1 L1)).cell? ⟨wr.heap.size, 2, none⟩ = some (.int .u64 (at1 : Int)) := hE3.2.2.2.2.cell 2
      have v3 : (w8.setCell ⟨wr.heap.size, 1, none⟩ (.slice (some ⟨g, 0, none⟩) L1 L1)).cell? ⟨wr.heap.size, 3, none⟩ = some (.int .i64 (st1 : Int)) := hE3.2.2.2.2.cell 3
      obtain ⟨W9, hW9⟩ : ∃ W, w8.setCell ⟨wr.heap.size, 1, none⟩ (.slice (some ⟨g, 0, none⟩) L1 L1) = W := ⟨_, rfl⟩
      have hb9 : Bytes W9 (some ⟨g, 0, none⟩) L1 G1 := hW9 ▸ hbts.set_apart hE.2.2.2.2 no_u8_4
      have hsz9 : W9.heap.size = w8.heap.size := by rw [← hW9]; simp [World.setCell]
      have hgb : ∀ q, (Value.slice o k c).ownBlock = some q → q < g := fun q hq => by have := hE.2.2.2.1 q hq; omega
      rw [hW9] at hE3
      have HIV : Hid (IsVer W9 [.int .u32 (X : Int), .slice (some ⟨g, 0, none⟩) L1 L1, .int .u64 (at1 : Int), .int .i64 (st1 : Int)] (dV F N b k)) := Lib.hid (by rw [hv]; exact ⟨_, L1, rfl, hb9, (fun h => by cases h), Nat.le_refl _, by unfold maxLen; omega⟩)
      have HAW : Hid (Away (.slice o k c) [.int .u32 (X : Int), .slice (some ⟨g, 0, none⟩) L1 L1, .int .u64 (at1 : Int), .int .i64 (st1 : Int)]) := Lib.hid fun a l cp hm hl e => by
        simp at hm
        obtain ⟨rfl, rfl, rfl⟩ := hm
        have := hgb _ e
        exact Nat.lt_irrefl _ this
      have HGs : Hid (GV (w8.setCell ⟨wr.heap.size, 1, none⟩ (.slice (some ⟨g, 0, none⟩) L1 L1)) base (.slice o k c) k (dV F N b)) := Lib.hid (by rw [hW9]; exact hE3.2.2.1)
      have HIs : Hid (IsVer (w8.setCell ⟨wr.heap.size, 1, none⟩ (.slice (some ⟨g, 0, none⟩) L1 L1)) [.int .u32 (X : Int), .slice (some ⟨g, 0, none⟩) L1 L1, .int .u64 (at1 : Int), .int .i64 (st1 : Int)] (dV F N b k)) := by rw [hW9]; exact HIV
      have HHs : Hid ((w8.setCell ⟨wr.heap.size, 1, none⟩ (.slice (some ⟨g, 0, none⟩) L1 L1)).heap.size = w8.heap.size) := Lib.hid (by rw [hW9]; exact hsz9)
      have HBs : Hid (base ≤ (w8.setCell ⟨wr.heap.size, 1, none⟩ (.slice (some ⟨g, 0, none⟩) L1 L1)).heap.size) := Lib.hid (by rw [hW9, hsz9]; have h1 := hE3.2.1.2.1; have h2 := hE3.2.2.2.2.lt; rw [hsz9] at h2; omega)
      have HKs : Hid ((k + 1) * 48 ≤ 140737488355328) := Lib.hid (by have := Hcnb.out; omega)
      have HE3 := Lib.hid hE3
      have HSZ := Lib.hid hsz9
      have HW9 := Lib.hid hW9
      have HKC := Lib.hid (show k ≤ 255 by have := Hcnb.out; omega)
      clear hR hO hE hRw hbts hv hLb hL1 hG1 hg2 hbv hs78 HE2 c3 z3 hE3 hb9 hsz9 hgb hW9 hx hg
      go_upto_region 14 with fail
      go_wp2_with (at_builtin; refine wpList_appV rfl (.tmp 47) (.tmp 49) rfl base (.slice o k c) k (dV F N b) [.int .u32 (X : Int), .slice (some ⟨g, 0, none⟩) L1 L1, .int .u64 (at1 : Int), .int .i64 (st1 : Int)] _ rfl HGs.out HIs.out HAW.out w8.heap.size HHs.out rfl HKs.out HBs.out ?_)
      intro v9 w9 hG9 hgr9 hbe9 hsz9
      rw [HW9.out] at hbe9
      obtain ⟨o9, c9, rfl, _, _⟩ := hG9.slice
      have hE9 := HE3.out.1.belowB hbe9 HE3.out.2.1.1
      have l9 : w9.cell? ⟨w2.heap.size, 0, none⟩ = some (.slice o k c) := hE9.2.2.2.2.1.cell 0
      have f9 : w9.frozen? ⟨w2.heap.size, 0, none⟩ = false := hE9.2.2.2.2.1.free 0
      have hGn := hG9.set_apart (k := 0) (x := .slice o9 (k + 1) c9) hE9.2.2.2.2.1 no_u8_3 HE3.out.2.1.1
      have HEN := Lib.hid (hE9.set0 o9 (k + 1) c9)
      have HGN := Lib.hid hGn
      have HBN : Hid (base ≤ (w9.setCell ⟨w2.heap.size, 0, none⟩ (.slice o9 (k + 1) c9)).heap.size) := Lib.hid (by
        have h1 := hsz9
        have h2 := HE3.out.2.1.2.1
        have h3 := HE3.out.2.2.2.2.lt
        rw [HSZ.out] at h3
        simp [World.setCell]; omega)
      have HB1 := Lib.hid HE3.out.2.1.1
      clear HGs HIs HHs HBs HKs hG9 hgr9 hbe9 hsz9 hE9 hGn HE3 HIV HAW c1 z1 y0 v0 v1 v2 v3
      go_wp2_with fail
      go_roundw
      case rel => exact ⟨k + 1, o9, c9, base, by omega, by go_num, HEN.out, HB1.out, HBN.out, HGN.out⟩
      case measure => simp [intOf]; omega
    · obtain rfl : k = cn := by omega
      have h1 : ¬ (k < k) := hlt
      clear hlt
      go_wp2_with fail
      obtain ⟨dn, hdn⟩ : ∃ x, (!(dK F N b k).bad && decide ((dK F N b k).p = N)) = x := ⟨_, rfl⟩
      have hrd := rdone_any (w.heap.size + 1) N (dK F N b k).p F (dK F N b k).bad _ HE.out.2.2.2.2.2
      rw [hdn] at hrd
      have l0 : wr.cell? ⟨w2.heap.size, 0, none⟩ = some (.slice o k c) := HE.out.2.2.2.2.1.cell 0
      have l1 : wr.cell? ⟨w2.heap.size, 1, none⟩ = some (.int .u32 (la : Int)) := HE.out.2.2.2.2.1.cell 1
      have l2 : wr.cell? ⟨w2.heap.size, 2, none⟩ = some (.int .i64 (mx : Int)) := HE.out.2.2.2.2.1.cell 2
      have z0 : wr.cell? ⟨w.heap.size, 0, none⟩ = some (.slice none 0 0) := HE.out.2.2.2.1.cell 0
      have z1 : wr.cell? ⟨w.heap.size, 1, none⟩ = some (.int .u32 0) := HE.out.2.2.2.1.cell 1
      have z2 : wr.cell? ⟨w.heap.size, 2, none⟩ = some (.int .i64 0) := HE.out.2.2.2.1.cell 2
      have f0 : wr.frozen? ⟨w.heap.size, 0, none⟩ = false := HE.out.2.2.2.1.free 0
      have f1 : wr.frozen? ⟨w.heap.size, 1, none⟩ = false := HE.out.2.2.2.1.free 1
      have f2 : wr.frozen? ⟨w.heap.size, 2, none⟩ = false := HE.out.2.2.2.1.free 2
      refine hrd.mono ?_
      rintro e w6 ⟨rfl, rfl⟩
      clear hrd
      cases dn
      · have hX := HE.out.2.2.2.1
        have A0 := Lib.hid (show (wr.setCell ⟨w.heap.size, 0, none⟩ (.slice none 0 0)).cell? ⟨w.heap.size, 0, none⟩ = some (.slice none 0 0) from Blk.cell (Blk.set hX 0 _) 0)
        have A1 := Lib.hid (show ((wr.setCell ⟨w.heap.size, 0, none⟩ (.slice none 0 0)).setCell ⟨w.heap.size, 1, none⟩ (.int .u32 0)).cell? ⟨w.heap.size, 1, none⟩ = some (.int .u32 0) from Blk.cell (Blk.set (Blk.set hX 0 _) 1 _) 1)
        have A2 := Lib.hid (show (((wr.setCell ⟨w.heap.size, 0, none⟩ (.slice none 0 0)).setCell ⟨w.heap.size, 1, none⟩ (.int .u32 0)).setCell ⟨w.heap.size, 2, none⟩ (.int .i64 0)).cell? ⟨w.heap.size, 2, none⟩ = some (.int .i64 0) from Blk.cell (Blk.set (Blk.set (Blk.set hX 0 _) 1 _) 2 _) 2)
        have HBW := Lib.hid HE.out.1
        clear hX
        go_wp2_with fail
        refine bodyPost_ret (v := .tuple #[.agg #[.slice none 0 0, .int .u32 0, .int .i64 0], .iface 146 (.int .i64 4)]) ?_ rfl ⟨Or.inl ⟨fun h => (by have h2 := h.1; rw [show dCnt F N b = k from Hcn.out, hdn] at h2; exact Bool.false_ne_true h2), rfl⟩, ?_⟩
        · simp [results, Tryd.results59, go_sem, A0.out, A1.out, A2.out]
        · exact (((HBW.out).setCell (by simp) _).setCell (by simp) _).setCell (by simp) _
      · go_wp2_with fail
        obtain ⟨_, _, hsl, hkc, hcm, hVs⟩ := HG.out.vers
        cases hsl
        by_cases hS : SecOk k la (mx : Int) (dV F N b)
        · refine (check_yes o k c la (mx : Int) (dV F N b) _ (by omega) Hlab.out hVs hS).mono ?_
          rintro e w7 ⟨rfl, hb7⟩
          have l0' : w7.cell? ⟨w2.heap.size, 0, none⟩ = some (.slice o k c) := (HE.out.2.2.2.2.1.below hb7 HE.out.2.2.2.2.1.lt).cell 0
          have l1' : w7.cell? ⟨w2.heap.size, 1, none⟩ = some (.int .u32 (la : Int)) := (HE.out.2.2.2.2.1.below hb7 HE.out.2.2.2.2.1.lt).cell 1
          have l2' : w7.cell? ⟨w2.heap.size, 2, none⟩ = some (.int .i64 (mx : Int)) := (HE.out.2.2.2.2.1.below hb7 HE.out.2.2.2.2.1.lt).cell 2
          have f0' : w7.frozen? ⟨w.heap.size, 0, none⟩ = false := (HE.out.2.2.2.1.below hb7 HE.out.2.2.2.1.lt).free 0
          have f1' : w7.frozen? ⟨w.heap.size, 1, none⟩ = false := (HE.out.2.2.2.1.below hb7 HE.out.2.2.2.1.lt).free 1
          have f2' : w7.frozen? ⟨w.heap.size, 2, none⟩ = false := (HE.out.2.2.2.1.below hb7 HE.out.2.2.2.1.lt).free 2
          have z0' : w7.cell? ⟨w.heap.size, 0, none⟩ = some (.slice none 0 0) := (HE.out.2.2.2.1.below hb7 HE.out.2.2.2.1.lt).cell 0
          have z1' : w7.cell? ⟨w.heap.size, 1, none⟩ = some (.int .u32 0) := (HE.out.2.2.2.1.below hb7 HE.out.2.2.2.1.lt).cell 1
          have z2' : w7.cell? ⟨w.heap.size, 2, none⟩ = some (.int .i64 0) := (HE.out.2.2.2.1.below hb7 HE.out.2.2.2.1.lt).cell 2
          have hX := HE.out.2.2.2.1.below hb7 HE.out.2.2.2.1.lt
          have A0 := Lib.hid (show (w7.setCell ⟨w.heap.size, 0, none⟩ (.slice o k c)).cell? ⟨w.heap.size, 0, none⟩ = some (.slice o k c) from Blk.cell (Blk.set hX 0 _) 0)
          have A1 := Lib.hid (show ((w7.setCell ⟨w.heap.size, 0, none⟩ (.slice o k c)).setCell ⟨w.heap.size, 1, none⟩ (.int .u32 (la : Int))).cell? ⟨w.heap.size, 1, none⟩ = some (.int .u32 (la : Int)) from Blk.cell (Blk.set (Blk.set hX 0 _) 1 _) 1)
          have A2 := Lib.hid (show (((w7.setCell ⟨w.heap.size, 0, none⟩ (.slice o k c)).setCell ⟨w.heap.size, 1, none⟩ (.int .u32 (la : Int))).setCell ⟨w.heap.size, 2, none⟩ (.int .i64 (mx : Int))).cell? ⟨w.heap.size, 2, none⟩ = some (.int .i64 (mx : Int)) from Blk.cell (Blk.set (Blk.set (Blk.set hX 0 _) 1 _) 2 _) 2)
          have HBW := Lib.hid (HE.out.1.trans (hb7.mono (by have := HE.out.1.size; omega)))
          have HG7 := Lib.hid (HG.out.later hb7)
          have HB7 := Lib.hid (HE.out.2.2.2.1.below hb7 HE.out.2.2.2.1.lt)
          have HS := Lib.hid hS
          clear hX hS l0 l1 l2 z0 z1 z2 f0 f1 f2 hb7 hVs hkc hcm
          go_wp2_with fail
          refine bodyPost_ret (v := .tuple #[.agg #[.slice o k c, .int .u32 (la : Int), .int .i64 (mx : Int)], .nilIface]) ?_ rfl ⟨Or.inr ⟨⟨by rw [show dCnt F N b = k from Hcn.out]; exact hdn, by rw [show dCnt F N b = k from Hcn.out, show dLast F N b = la from Hla.out, show dMax F N b = mx from Hmx.out]; exact HS.out⟩, o, c, base, by rw [show dCnt F N b = k from Hcn.out, show dLast F N b = la from Hla.out, show dMax F N b = mx from Hmx.out], by have := HE.out.2.1; have := HE.out.2.2.1; have := HBS.out; omega, by rw [show dCnt F N b = k from Hcn.out]; exact ((HG7.out.set_apart HB7.out no_u8_3 (by have := HE.out.2.1; have := HE.out.2.2.1; have := HBS.out; omega)).set_apart (HB7.out.set 0 _) no_u8_3 (by have := HE.out.2.1; have := HE.out.2.2.1; have := HBS.out; omega)).set_apart ((HB7.out.set 0 _).set 1 _) no_u8_3 (by have := HE.out.2.1; have := HE.out.2.2.1; have := HBS.out; omega)⟩, ?_⟩
          · simp [results, Tryd.results59, go_sem, A0.out, A1.out, A2.out]
          · exact (((HBW.out).setCell (by simp) _).setCell (by simp) _).setCell (by simp) _
        · refine (check_bad o k c la (mx : Int) (dV F N b) _ (by omega) Hlab.out hVs hS).mono ?_
          rintro e w7 ⟨rfl, hb7⟩
          have f0' : w7.frozen? ⟨w.heap.size, 0, none⟩ = false := (HE.out.2.2.2.1.below hb7 HE.out.2.2.2.1.lt).free 0
          have f1' : w7.frozen? ⟨w.heap.size, 1, none⟩ = false := (HE.out.2.2.2.1.below hb7 HE.out.2.2.2.1.lt).free 1
          have f2' : w7.frozen? ⟨w.heap.size, 2, none⟩ = false := (HE.out.2.2.2.1.below hb7 HE.out.2.2.2.1.lt).free 2
          have z0' : w7.cell? ⟨w.heap.size, 0, none⟩ = some (.slice none 0 0) := (HE.out.2.2.2.1.below hb7 HE.out.2.2.2.1.lt).cell 0
          have z1' : w7.cell? ⟨w.heap.size, 1, none⟩ = some (.int .u32 0) := (HE.out.2.2.2.1.below hb7 HE.out.2.2.2.1.lt).cell 1
          have z2' : w7.cell? ⟨w.heap.size, 2, none⟩ = some (.int .i64 0) := (HE.out.2.2.2.1.below hb7 HE.out.2.2.2.1.lt).cell 2
          have hX := HE.out.2.2.2.1.below hb7 HE.out.2.2.2.1.lt
          have A0 := Lib.hid (show (w7.setCell ⟨w.heap.size, 0, none⟩ (.slice none 0 0)).cell? ⟨w.heap.size, 0, none⟩ = some (.slice none 0 0) from Blk.cell (Blk.set hX 0 _) 0)
          have A1 := Lib.hid (show ((w7.setCell ⟨w.heap.size, 0, none⟩ (.slice none 0 0)).setCell ⟨w.heap.size, 1, none⟩ (.int .u32 0)).cell? ⟨w.heap.size, 1, none⟩ = some (.int .u32 0) from Blk.cell (Blk.set (Blk.set hX 0 _) 1 _) 1)
          have A2 := Lib.hid (show (((w7.setCell ⟨w.heap.size, 0, none⟩ (.slice none 0 0)).setCell ⟨w.heap.size, 1, none⟩ (.int .u32 0)).setCell ⟨w.heap.size, 2, none⟩ (.int .i64 0)).cell? ⟨w.heap.size, 2, none⟩ = some (.int .i64 0) from Blk.cell (Blk.set (Blk.set (Blk.set hX 0 _) 1 _) 2 _) 2)
          have HBW := Lib.hid (HE.out.1.trans (hb7.mono (by have := HE.out.1.size; omega)))
          have HS := Lib.hid hS
          clear hX hS l0 l1 l2 z0 z1 z2 f0 f1 f2 hb7 hVs hkc hcm
          go_wp2_with fail
          refine bodyPost_ret (v := .tuple #[.agg #[.slice none 0 0, .int .u32 0, .int .i64 0], .iface 146 (.int .i64 4)]) ?_ rfl ⟨Or.inl ⟨fun h => HS.out (by have h2 := h.2; rw [show dCnt F N b = k from Hcn.out, show dLast F N b = la from Hla.out, show dMax F N b = mx from Hmx.out] at h2; exact h2), rfl⟩, ?_⟩
          · simp [results, Tryd.results59, go_sem, A0.out, A1.out, A2.out]
          · exact (((HBW.out).setCell (by simp) _).setCell (by simp) _).setCell (by simp) _
end Go.Proofs.YtkaddilgegimjaaDoor
