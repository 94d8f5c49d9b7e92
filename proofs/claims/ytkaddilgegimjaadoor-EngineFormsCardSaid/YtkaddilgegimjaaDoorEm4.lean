/- The document's Decode of layer 30. -/
import Derived.Test.YtkaddilgegimjaaDoorEm1
import Derived.Test.YtkaddilgegimjaaDoorEm3
import Derived.Test.YtkaddilgegimjaaDoorEs4
import Derived.RegionTactic
import Derived.IntWalk
import Derived.Deep.RegionHeld3
import Derived.Deep.DeepCutAuto
namespace Go.Proofs.YtkaddilgegimjaaDoor
set_option linter.unusedVariables false
set_option linter.unusedSimpArgs false
open Go.RowKit

/-- What the document reads. -/
def RDecPost (w : World) (F : Nat → Nat) (N : Nat) (b : Bool) (e : Ending) (w' : World) : Prop :=
  (¬ DecOk F N b ∧ e = .returned (.tuple #[.agg #[.slice none 0 0, .int .u32 0, .int .i64 0], .int .i64 4]) ∨
    DecOk F N b ∧ ∃ o c, e = .returned (.tuple #[.agg #[.slice o (dCnt F N b) c, .int .u32 (dLast F N b : Int), .int .i64 (dMax F N b : Int)], .int .i64 0]) ∧ Vers w' o (dCnt F N b) (dV F N b)) ∧ Below w.heap.size w w'
def RDp (w : World) (e : Ending) (w' : World) : Prop := e = .returned (.tuple #[.agg #[.slice none 0 0, .int .u32 0, .int .i64 0], .int .i64 4]) ∧ Below w.heap.size w w'
theorem RDecPost.no {w w' : World} {F : Nat → Nat} {N : Nat} {b : Bool} {e : Ending} (h : ¬ DecOk F N b) (he : RDp w e w') : RDecPost w F N b e w' := ⟨.inl ⟨h, he.1⟩, he.2⟩
set_option maxRecDepth 100000 in
set_option maxHeartbeats 1000000 in
theorem rdec30_short (od : Option Addr) (N cap : Nat) (F : Nat → Nat) (w : World) (hB : Bytes w od N F) (h : N < 8) :
    Calls Tryd.prog 60 #[.slice od N cap] w (RDp w) := by
  have g0 : (N : Int) < 8 := by omega
  clear hB h
  go_enter Tryd.func60, Tryd.ntmps60
  go_wp2_with fail
  refine bodyPost_ret (v := .tuple #[.agg #[.slice none 0 0, .int .u32 0, .int .i64 0], .int .i64 4]) ?_ rfl ⟨rfl, ?_⟩
  · simp [results, Tryd.results60, go_sem]
  · exact (Below.refl _ _).alloc (Nat.le_refl _) _
set_option maxRecDepth 100000 in
set_option maxHeartbeats 1000000 in
theorem rdec30_m0 (od : Option Addr) (N cap : Nat) (F : Nat → Nat) (w : World) (hB : Bytes w od N F) (h : 8 ≤ N) (hf : F 0 ≠ 115) :
    Calls Tryd.prog 60 #[.slice od N cap] w (RDp w) := by
  obtain ⟨_, b0, o0, e0, c0⟩ := (hB.alloc (.cells #[.slice none 0 0, .int .u32 0, .int .i64 0] 73)) 0 (by omega)
  rw [Nat.add_zero] at c0
  have g0 : ¬ ((N : Int) < 8) := by omega
  have g1 : (8 : Int) ≤ (N : Int) := by omega
  have g2 : ((F 0 : Int) != 115) = true := by rw [bne_iff_ne]; omega
  subst e0
  clear hB h hf
  go_enter Tryd.func60, Tryd.ntmps60
  go_wp2_with fail
  refine bodyPost_ret (v := .tuple #[.agg #[.slice none 0 0, .int .u32 0, .int .i64 0], .int .i64 4]) ?_ rfl ⟨rfl, ?_⟩
  · simp [results, Tryd.results60, go_sem]
  · exact (Below.refl _ _).alloc (Nat.le_refl _) _
set_option maxRecDepth 100000 in
set_option maxHeartbeats 1000000 in
theorem rdec30_m1 (od : Option Addr) (N cap : Nat) (F : Nat → Nat) (w : World) (hB : Bytes w od N F) (h : 8 ≤ N) (hf0 : F 0 = 115) (hf : F 1 ≠ 101) :
    Calls Tryd.prog 60 #[.slice od N cap] w (RDp w) := by
  obtain ⟨_, b0, o0, e0, c0⟩ := (hB.alloc (.cells #[.slice none 0 0, .int .u32 0, .int .i64 0] 73)) 0 (by omega)
  obtain ⟨_, b1, o1, e1, c1⟩ := (hB.alloc (.cells #[.slice none 0 0, .int .u32 0, .int .i64 0] 73)) 1 (by omega)
  rw [Nat.add_zero, hf0] at c0
  have g0 : ¬ ((N : Int) < 8) := by omega
  have g1 : (8 : Int) ≤ (N : Int) := by omega
  have g2 : ((F 1 : Int) != 101) = true := by rw [bne_iff_ne]; omega
  subst e0
  cases e1
  clear hB h hf hf0
  go_enter Tryd.func60, Tryd.ntmps60
  go_wp2_with fail
  refine bodyPost_ret (v := .tuple #[.agg #[.slice none 0 0, .int .u32 0, .int .i64 0], .int .i64 4]) ?_ rfl ⟨rfl, ?_⟩
  · simp [results, Tryd.results60, go_sem]
  · exact (Below.refl _ _).alloc (Nat.le_refl _) _

/-- What holds while a secret is read. -/
def RDS (w0 : World) (o : Option Addr) (k c : Nat) (x y : Int) (wr : World) : Prop := Below w0.heap.size w0 wr ∧ Blk wr w0.heap.size #[.slice none 0 0, .int .u32 0, .int .i64 0] 73 ∧ Blk wr (w0.heap.size + 1) #[.slice o k c, .int .u32 x, .int .i64 y] 73
theorem RDS.later {w0 wr w' : World} {o : Option Addr} {k c : Nat} {x y : Int} (h : RDS w0 o k c x y wr) (hb : Below wr.heap.size wr w') : RDS w0 o k c x y w' := ⟨h.1.trans (hb.mono h.1.size), h.2.1.below hb h.2.1.lt, h.2.2.below hb h.2.2.lt⟩
theorem RDS.belowB {w0 wr w' : World} {o : Option Addr} {k c B : Nat} {x y : Int} (h : RDS w0 o k c x y wr) (hb : Below B wr w') (hB : w0.heap.size + 1 < B) : RDS w0 o k c x y w' := ⟨h.1.trans (hb.mono (by omega)), h.2.1.below hb (by omega), h.2.2.below hb hB⟩
theorem RDS.set1 {w0 wr : World} {o : Option Addr} {k c : Nat} {x y : Int} (h : RDS w0 o k c x y wr) (x' : Int) : RDS w0 o k c x' y (wr.setCell ⟨w0.heap.size + 1, 1, none⟩ (.int .u32 x')) := ⟨h.1.setCell (by simp) _, h.2.1.set_other (by simp) _, by simpa using h.2.2.set 1 (.int .u32 x')⟩
theorem RDS.set0 {w0 wr : World} {o : Option Addr} {k c : Nat} {x y : Int} (h : RDS w0 o k c x y wr) (o' : Option Addr) (k' c' : Nat) : RDS w0 o' k' c' x y (wr.setCell ⟨w0.heap.size + 1, 0, none⟩ (.slice o' k' c')) := ⟨h.1.setCell (by simp) _, h.2.1.set_other (by simp) _, by simpa using h.2.2.set 0 (.slice o' k' c')⟩
theorem RDS.seto {w0 wr : World} {o : Option Addr} {k c b j : Nat} {x y : Int} {v : Value} (h : RDS w0 o k c x y wr) (hb : w0.heap.size + 1 < b) : RDS w0 o k c x y (wr.setCell ⟨b, j, none⟩ v) := ⟨h.1.setCell (by show _ ≤ b; omega) _, h.2.1.set_other (by show _ ≠ b; omega) _, h.2.2.set_other (by show _ ≠ b; omega) _⟩
theorem RDS.drew {w0 wr : World} {o : Option Addr} {k c : Nat} {x y : Int} (h : RDS w0 o k c x y wr) : RDS w0 o k c x y wr.drew := ⟨⟨h.1.os, h.1.tape, h.1.output, h.1.size, h.1.block⟩, h.2.1, h.2.2⟩

theorem RGV.set_ne {w : World} {base n : Nat} {v : Value} {V : Nat → Ver} {b k : Nat} {C : Array Value} {t : TypeId} {x : Value} (h : RGV w base v n V) (hB : Blk w b C t) (hn : ∀ (j : Nat) (z : Int), C[j]? ≠ some (Value.int .u8 z)) (hb : v.ownBlock ≠ some b) : RGV (w.setCell ⟨b, k, none⟩ x) base v n V := by
  obtain ⟨D, h1, h2⟩ := h
  refine ⟨D, ⟨h1.1, ?_⟩, fun i hi => ⟨(h2 i hi).1.set_apart hB hn, (h2 i hi).2⟩⟩
  rcases h1.2 with h3 | ⟨g, cap, cur, hv, hg, hh, r⟩
  · exact .inl h3
  · refine .inr ⟨g, cap, cur, hv, hg, ?_, r⟩
    have hne : g ≠ b := fun e => hb (by rw [hv, e]; rfl)
    rw [Below.heap_setCell _ _ _ _ hne]; exact hh
/-- While a version is read. -/
def RE (w0 : World) (o : Option Addr) (k c : Nat) (x y : Int) (base : Nat) (V : Nat → Ver) (q : Nat) (n0 : Int) (a1 : Option Addr) (n1 c1 : Nat) (t1 s1 : Int) (wr : World) : Prop :=
  RDS w0 o k c x y wr ∧ (w0.heap.size + 1 < base ∧ base ≤ q) ∧ RGV wr base (.slice o k c) k V ∧ (∀ z, (Value.slice o k c).ownBlock = some z → z < q) ∧ Blk wr q #[.int .u32 n0, .slice a1 n1 c1, .int .u64 t1, .int .i64 s1] 89
section
variable {w0 wr : World} {o a1 a1' : Option Addr} {k c base q n1 c1 n1' c1' j : Nat} {x y n0 t1 s1 t1' s1' : Int} {V : Nat → Ver} {v : Value}
theorem RE.rds (h : RE w0 o k c x y base V q n0 a1 n1 c1 t1 s1 wr) : RDS w0 o k c x y wr := h.1
theorem RE.row (h : RE w0 o k c x y base V q n0 a1 n1 c1 t1 s1 wr) : RGV wr base (.slice o k c) k V := h.2.2.1
theorem RE.blk (h : RE w0 o k c x y base V q n0 a1 n1 c1 t1 s1 wr) : Blk wr q #[.int .u32 n0, .slice a1 n1 c1, .int .u64 t1, .int .i64 s1] 89 := h.2.2.2.2
theorem RE.drew (h : RE w0 o k c x y base V q n0 a1 n1 c1 t1 s1 wr) : RE w0 o k c x y base V q n0 a1 n1 c1 t1 s1 wr.drew := ⟨h.1.drew, h.2.1, RGV.later h.2.2.1 (Below.drew (Below.refl _ _)), h.2.2.2.1, h.2.2.2.2⟩
theorem RE.setv (h : RE w0 o k c x y base V q n0 a1 n1 c1 t1 s1 wr) (hv : (#[Value.int .u32 n0, .slice a1 n1 c1, .int .u64 t1, .int .i64 s1] : Array Value).setIfInBounds j v = #[.int .u32 n0, .slice a1' n1' c1', .int .u64 t1', .int .i64 s1']) : RE w0 o k c x y base V q n0 a1' n1' c1' t1' s1' (wr.setCell ⟨q, j, none⟩ v) := by
  obtain ⟨h1, h2, h3, h4, h5⟩ := h
  refine ⟨h1.seto (by omega), h2, h3.set_ne h5 no_u8_4 (fun e => by have := h4 q e; omega), h4, ?_⟩
  have := h5.set j v
  rw [hv] at this; exact this
theorem RE.new (h : RDS w0 o k c x y wr) (hb1 : w0.heap.size + 1 < base) (hb2 : base ≤ wr.heap.size) (hG : RGV wr base (.slice o k c) k V) : RE w0 o k c x y base V wr.heap.size n0 a1 n1 c1 t1 s1 (wr.alloc (.cells #[.int .u32 n0, .slice a1 n1 c1, .int .u64 t1, .int .i64 s1] 89)).drew := by
  have hb : Below wr.heap.size wr (wr.alloc (.cells #[.int .u32 n0, .slice a1 n1 c1, .int .u64 t1, .int .i64 s1] 89)).drew := ((Below.refl _ _).alloc (Nat.le_refl _) _).drew
  exact ⟨h.later hb, ⟨hb1, hb2⟩, hG.later hb, fun z hz => (hG.ownb z hz).2, Blk.new _ _ _⟩
end

set_option maxRecDepth 100000 in
set_option maxHeartbeats 8000000 in
theorem rdec30_main (bb oo : Nat) (N cap : Nat) (F : Nat → Nat) (w : World) (hB : Bytes w (some ⟨bb, oo, none⟩) N F) (hc : N ≤ cap) (hm : cap ≤ maxLen) (h8 : 8 ≤ N) (hf0 : F 0 = 115) (hf1 : F 1 = 101) :
    Calls Tryd.prog 60 #[.slice (some ⟨bb, oo, none⟩) N cap] w (RDecPost w F N true) := by
  have hF : ∀ i, i < N → F i < 256 := fun i hi => (hB i hi).1
  obtain ⟨_, _, _, e, cw⟩ := hB 0 (by omega)
  cases e
  have hbl := lt_of_cell cw
  have HBL := Lib.hid hbl
  clear cw hbl
  obtain ⟨a1, a2, a3⟩ := head_in (F := F) h8
  have hB1 := hB.alloc (.cells #[.slice none 0 0, .int .u32 0, .int .i64 0] 73)
  obtain ⟨_, _, _, e0, c0⟩ := hB1 0 (by omega)
  cases e0
  obtain ⟨_, _, _, e1, c1⟩ := hB1 1 (by omega)
  cases e1
  obtain ⟨_, _, _, e2, c2⟩ := hB1 2 (by omega)
  cases e2
  rw [Nat.add_zero, hf0] at c0
  rw [hf1] at c1
  obtain ⟨mx, hmx⟩ : ∃ x, F 2 = x := ⟨_, rfl⟩
  have hmxb : mx < 256 := by rw [← hmx]; exact hF 2 (by omega)
  rw [hmx] at c2 a1
  have g0 : ¬ ((N : Int) < 8) := by omega
  have g1 : (8 : Int) ≤ (N : Int) := by omega
  have mx0 : (0 : Int) ≤ (mx : Int) := by omega
  have mx1 : (mx : Int) < 256 := by omega
  have nc : (N : Int) ≤ (cap : Int) := by omega
  have HB := Lib.hid hB
  have HF := Lib.hid hF
  have HC := Lib.hid hc
  have HM := Lib.hid hm
  have H8 := Lib.hid h8
  have HA1 := Lib.hid a1
  have HA2 := Lib.hid a2
  have HA3 := Lib.hid a3
  have HD4 := Lib.hid ((d4_in (F := F) h8).2.2.2)
  clear hB hF hc hm h8 hf0 hf1 a1 a2 a3 hmx hmxb hB1
  go_enter Tryd.func60, Tryd.ntmps60
  go_wp2_with fail
  go_loopw [5] (fun i wr => ∃ j : Nat, j ≤ 4 ∧ i = .int .i64 ((3 : Int) + (j : Int)) ∧ RDS w none 0 0 (beX F 3 j : Nat) (mx : Int) wr) (fun i _ => 7 - (intOf i).toNat)
  case atStart => exact ⟨0, Nat.zero_le _, rfl, ((Below.refl _ _).alloc (Nat.le_refl _) _).alloc (by simp) _, blk2 _ _ _ _ _, blk2' _ _ _ _ _⟩
  case round =>
    obtain ⟨j, hj, rfl, hR⟩ := hrel
    clear c0 c1 c2
    by_cases hlt : j < 4
    · obtain ⟨hfj, b', o', e, hcell⟩ := (HB.out.later hR.1) (3 + j) (by have := H8.out; omega)
      cases e
      have hl : beX F 3 j < 16777216 := Nat.lt_of_lt_of_le (beX_lt j fun i hi => HF.out (3 + i) (by have := H8.out; omega)) (Nat.pow_le_pow_right (n := 256) (by decide) (show j ≤ 3 by omega))
      have hs : beX F 3 (j + 1) = beX F 3 j * 256 + F (3 + j) := rfl
      generalize beX F 3 j = t at *
      generalize F (3 + j) = x at *
      have j0 : (0 : Int) ≤ 3 + (j : Int) := by omega
      have j1 : (3 : Int) + (j : Int) < 7 := by omega
      have j2 : (3 : Int) + (j : Int) < (N : Int) := by have := H8.out; omega
      have j3 : ((3 : Int) + (j : Int)).toNat = 3 + j := by omega
      have m1 : IntKind.u32.wrap (256 * (t : Int)) = 256 * (t : Int) := by rw [IntKind.wrap_u32]; omega
      have m2 : IntKind.u32.wrap (x : Int) = (x : Int) := by rw [IntKind.wrap_u32]; omega
      have m3 : IntKind.u32.wrap (256 * (t : Int) + (x : Int)) = 256 * (t : Int) + (x : Int) := by rw [IntKind.wrap_u32]; omega
      have y1 : wr.cell? ⟨w.heap.size + 1, 1, none⟩ = some (.int .u32 (t : Int)) := Blk.cell hR.2.2 1
      have z1 : wr.frozen? ⟨w.heap.size + 1, 1, none⟩ = false := Blk.free hR.2.2 1
      have HR4 := Lib.hid (hR.set1 (256 * (t : Int) + (x : Int)))
      have HSS := Lib.hid hs
      clear hR hs
      go_wp2_with fail
      go_region
      all_goals
        go_wp2_with fail
        go_roundw
        case rel => exact ⟨j + 1, by omega, by go_num, by rw [show beX F 3 (j + 1) = 256 * t + x by have := HSS.out; omega]; first | exact HR4.out | exact HR4.out.drew⟩
        case measure => simp [intOf]; omega
    · obtain rfl : j = 4 := by omega
      rw [show (3 : Int) + ((4 : Nat) : Int) = 7 from rfl]
      rw [show beX F 3 4 = dLast F N true from HA2.out.symm] at hR
      obtain ⟨la, hla⟩ : ∃ x, dLast F N true = x := ⟨_, rfl⟩
      have hlab : la < 4294967296 := by
        have h := beX_lt (f := F) (a := 3) 4 (fun i hi => HF.out (3 + i) (by have := H8.out; omega))
        rw [← HA2.out, hla] at h; simpa using h
      rw [hla] at hR
      obtain ⟨cn, hcn⟩ : ∃ x, dCnt F N true = x := ⟨_, rfl⟩
      have h7 : F 7 = cn := by rw [← HA3.out]; exact hcn
      obtain ⟨hc7, b7, o7, e7, c7⟩ := (HB.out.later hR.1) 7 (by have := H8.out; omega)
      cases e7
      rw [h7] at c7 hc7
      have cnb : (cn : Int) < 256 := by omega
      have cn0 : (0 : Int) ≤ (cn : Int) := by omega
      have lab : (la : Int) < 4294967296 := by omega
      have la0 : (0 : Int) ≤ (la : Int) := by omega
      have Hla := Lib.hid hla
      have Hlab := Lib.hid hlab
      have Hcn := Lib.hid hcn
      have Hcnb := Lib.hid hc7
      have HR := Lib.hid hR
      clear hla hlab hcn h7 hc7 hR hlt hj
      go_wp2_with fail
      go_loopw [7, 8] (fun a i wr => ∃ (k p : Nat) (o : Option Addr) (c base : Nat), k ≤ cn ∧ i = .int .i64 (k : Int) ∧ a = .int .i64 (p : Int) ∧ dK F N true k = ⟨p, false⟩ ∧ p ≤ N ∧ RDS w o k c (la : Int) (mx : Int) wr ∧ w.heap.size + 1 < base ∧ base ≤ wr.heap.size ∧ RGV wr base (.slice o k c) k (dV F N true)) (fun _ i _ => cn - (intOf i).toNat)
      case atStart => exact ⟨0, 8, none, 0, wr.heap.size, Nat.zero_le _, rfl, rfl, HD4.out, H8.out, HR.out, HR.out.2.2.lt, Nat.le_refl _, RGV.nil _ _ _⟩
      case round =>
        obtain ⟨k, p, o, c, base, hk, rfl, rfl, hKp, hpN, hR2, hb1, hb2, hG⟩ := hrel
        obtain ⟨wr1, rfl⟩ : ∃ wo : World, wo = wr := ⟨_, rfl⟩
        have HK := Lib.hid hKp
        have HR2 := Lib.hid hR2
        have HB1 := Lib.hid hb1
        have HB2 := Lib.hid hb2
        have HG := Lib.hid hG
        have HP := Lib.hid hpN
        have p0 : (0 : Int) ≤ (p : Int) := by omega
        have nm : (N : Int) ≤ 9223372036854775807 := by have h1 := HC.out; have h2 := HM.out; unfold maxLen at h2; omega
        have pN : (p : Int) ≤ (N : Int) := by omega
        have z0 : wr1.cell? ⟨w.heap.size, 0, none⟩ = some (.slice none 0 0) := Blk.cell hR2.2.1 0
        have z1 : wr1.cell? ⟨w.heap.size, 1, none⟩ = some (.int .u32 0) := Blk.cell hR2.2.1 1
        have z2 : wr1.cell? ⟨w.heap.size, 2, none⟩ = some (.int .i64 0) := Blk.cell hR2.2.1 2
        have f0 : wr1.frozen? ⟨w.heap.size, 0, none⟩ = false := Blk.free hR2.2.1 0
        have f1 : wr1.frozen? ⟨w.heap.size, 1, none⟩ = false := Blk.free hR2.2.1 1
        have f2 : wr1.frozen? ⟨w.heap.size, 2, none⟩ = false := Blk.free hR2.2.1 2
        clear hKp hR2 hb1 hb2 hG c7
        by_cases hlt : k < cn
        · have k1 : (k : Int) < (cn : Int) := by omega
          have k0 : (0 : Int) ≤ (k : Int) := by omega
          by_cases hA : N - p < 10
          · have gA : (N : Int) - (p : Int) < 10 := by omega
            have hj1 : k + 1 ≤ dCnt F N true := by have := Hcn.out; omega
            have HNO := Lib.hid (not_ok_of_bad (F := F) (N := N) (b := true) (j := k + 1) (by show (dB F N (dK F N true k)).bad = true; rw [HK.out]; exact dB_short hA) hj1)
            have hX := HR2.out.2.1
            have A0 := Lib.hid (show (wr1.setCell ⟨w.heap.size, 0, none⟩ (.slice none 0 0)).cell? ⟨w.heap.size, 0, none⟩ = some (.slice none 0 0) from Blk.cell (Blk.set hX 0 _) 0)
            have A1 := Lib.hid (show ((wr1.setCell ⟨w.heap.size, 0, none⟩ (.slice none 0 0)).setCell ⟨w.heap.size, 1, none⟩ (.int .u32 0)).cell? ⟨w.heap.size, 1, none⟩ = some (.int .u32 0) from Blk.cell (Blk.set (Blk.set hX 0 _) 1 _) 1)
            have A2 := Lib.hid (show (((wr1.setCell ⟨w.heap.size, 0, none⟩ (.slice none 0 0)).setCell ⟨w.heap.size, 1, none⟩ (.int .u32 0)).setCell ⟨w.heap.size, 2, none⟩ (.int .i64 0)).cell? ⟨w.heap.size, 2, none⟩ = some (.int .i64 0) from Blk.cell (Blk.set (Blk.set (Blk.set hX 0 _) 1 _) 2 _) 2)
            have HBW := Lib.hid HR2.out.1
            clear hX hA hpN hj1
            go_wp2_with fail
            refine bodyPost_ret (v := .tuple #[.agg #[.slice none 0 0, .int .u32 0, .int .i64 0], .int .i64 4]) ?_ rfl ⟨.inl ⟨HNO.out, rfl⟩, ?_⟩
            · simp [results, Tryd.results60, go_sem, A0.out, A1.out, A2.out]
            · exact (((HBW.out).setCell (by simp) _).setCell (by simp) _).setCell (by simp) _
          · have gA : ¬ ((N : Int) - (p : Int) < 10) := by omega
            have gA2 : (10 : Int) ≤ (N : Int) - (p : Int) := by omega
            have p10 : p + 10 ≤ N := by omega
            have p9 : (p : Int) + 9 < (N : Int) := by omega
            obtain ⟨hy, _, _, e9, c9⟩ := (HB.out.later HR2.out.1) (p + 9) (by omega)
            cases e9
            obtain ⟨y, hye⟩ : ∃ y, F (p + 9) = y := ⟨_, rfl⟩
            rw [hye] at c9 hy
            have y0 : (0 : Int) ≤ (y : Int) := by omega
            have y1 : (y : Int) < 256 := by omega
            by_cases hY : N - p - 10 < y
            · have gY : (N : Int) - (p : Int) - 10 < (y : Int) := by omega
              have hj1 : k + 1 ≤ dCnt F N true := by have := Hcn.out; omega
              have HNO := Lib.hid (not_ok_of_bad (F := F) (N := N) (b := true) (j := k + 1) (by show (dB F N (dK F N true k)).bad = true; rw [HK.out]; exact dB_long p10 (by rw [hye]; exact hY)) hj1)
              have hX := HR2.out.2.1
              have A0 := Lib.hid (show (wr1.setCell ⟨w.heap.size, 0, none⟩ (.slice none 0 0)).cell? ⟨w.heap.size, 0, none⟩ = some (.slice none 0 0) from Blk.cell (Blk.set hX 0 _) 0)
              have A1 := Lib.hid (show ((wr1.setCell ⟨w.heap.size, 0, none⟩ (.slice none 0 0)).setCell ⟨w.heap.size, 1, none⟩ (.int .u32 0)).cell? ⟨w.heap.size, 1, none⟩ = some (.int .u32 0) from Blk.cell (Blk.set (Blk.set hX 0 _) 1 _) 1)
              have A2 := Lib.hid (show (((wr1.setCell ⟨w.heap.size, 0, none⟩ (.slice none 0 0)).setCell ⟨w.heap.size, 1, none⟩ (.int .u32 0)).setCell ⟨w.heap.size, 2, none⟩ (.int .i64 0)).cell? ⟨w.heap.size, 2, none⟩ = some (.int .i64 0) from Blk.cell (Blk.set (Blk.set (Blk.set hX 0 _) 1 _) 2 _) 2)
              have HBW := Lib.hid HR2.out.1
              clear hX hA hpN hj1 hY hye p10 hy
              go_wp2_with fail
              refine bodyPost_ret (v := .tuple #[.agg #[.slice none 0 0, .int .u32 0, .int .i64 0], .int .i64 4]) ?_ rfl ⟨.inl ⟨HNO.out, rfl⟩, ?_⟩
              · simp [results, Tryd.results60, go_sem, A0.out, A1.out, A2.out]
              · exact (((HBW.out).setCell (by simp) _).setCell (by simp) _).setCell (by simp) _
            · have gY : ¬ ((N : Int) - (p : Int) - 10 < (y : Int)) := by omega
              have gY2 : (p : Int) + 10 + (y : Int) ≤ (N : Int) := by omega
              have hyl : y ≤ N - p - 10 := by omega
              obtain ⟨X, hX⟩ : ∃ X : Nat, (la + 4294967296 - cn + 1 + k) % 4294967296 = X := ⟨_, rfl⟩
              have hx : IntKind.u32.wrap ((la : Int) - (cn : Int) + (k : Int) + 1) = (X : Int) := by rw [IntKind.wrap_u32]; have := Hlab.out; have := Hcnb.out; omega
              obtain ⟨hs, _, _, e8, c8⟩ := (HB.out.later HR2.out.1) (p + 8) (by omega)
              cases e8
              obtain ⟨st, hse⟩ : ∃ y, F (p + 8) = y := ⟨_, rfl⟩
              rw [hse] at c8 hs
              have HDV := Lib.hid (show dV F N true k = ⟨X, y, fun i => F (p + 10 + i), beX F p 8, (st : Nat)⟩ by rw [dV_in HK.out p10 (by rw [hye]; exact hyl), hye, hse, Hla.out, Hcn.out, hX])
              have HDK := Lib.hid (show dK F N true (k + 1) = ⟨p + 10 + y, false⟩ by show dB F N (dK F N true k) = _; rw [HK.out, dB_in p10 (by rw [hye]; exact hyl), hye])
              have HP10 := Lib.hid p10
              have HF9 := Lib.hid hye
              have HYL := Lib.hid hyl
              have l1 : wr1.cell? ⟨w.heap.size + 1, 1, none⟩ = some (.int .u32 (la : Int)) := Blk.cell HR2.out.2.2 1
              have st0 : (0 : Int) ≤ (st : Int) := by omega
              have st1 : (st : Int) < 256 := by omega
              have p8 : (p : Int) + 8 < (N : Int) := by omega
              have w1 : IntKind.i64.wrap (la : Int) = (la : Int) := IntWalk.i64_in _ (by omega)
              have w2 : IntKind.i64.wrap ((la : Int) - (cn : Int)) = (la : Int) - (cn : Int) := IntWalk.i64_in _ (by omega)
              have w3 : IntKind.i64.wrap ((la : Int) - (cn : Int) + (k : Int)) = (la : Int) - (cn : Int) + (k : Int) := IntWalk.i64_in _ (by omega)
              have w4 : IntKind.i64.wrap ((la : Int) - (cn : Int) + (k : Int) + 1) = (la : Int) - (cn : Int) + (k : Int) + 1 := IntWalk.i64_in _ (by omega)
              have w5 : IntKind.i64.wrap ((p : Int) + 8) = (p : Int) + 8 := IntWalk.i64_in _ (by omega)
              have w6 : IntKind.i64.wrap (st : Int) = (st : Int) := IntWalk.i64_in _ (by omega)
              have w7 : ((p : Int) + 8).toNat = p + 8 := by omega
              have w8 : (0 : Int) ≤ (p : Int) + 8 := by omega
              clear hA hpN hY hye hy hyl hX hs hse p10 z0 z1 z2 f0 f1 f2
              go_wp2_with fail
              go_region_held3 (fun w' => w'.cell? ⟨w.heap.size + 1, 1, none⟩ = some (.int .u32 (la : Int)) ∧ w'.cell? ⟨bb, oo + (p + 8), none⟩ = some (.int .u8 (st : Int))) (go_keep) (fail)
              have HE0 := Lib.hid (RE.new (n0 := (X : Int)) (a1 := none) (n1 := 0) (c1 := 0) (t1 := 0) (s1 := (st : Int)) HR2.out HB1.out HB2.out HG.out)
              clear hx w1 w2 w3 w4 w5 w6 w7 w8 l1 c8 c9
              go_wp2_with fail
              go_loopw [10] (fun i wr => ∃ q : Nat, q ≤ 8 ∧ i = .int .i64 (q : Int) ∧ RE w o k c (la : Int) (mx : Int) base (dV F N true) wr1.heap.size (X : Int) none 0 0 (beX F p q : Nat) (st : Int) wr) (fun i _ => 8 - (intOf i).toNat)
              case atStart => exact ⟨0, Nat.zero_le _, rfl, HE0.out⟩
              case round =>
                obtain ⟨q, hq, rfl, hE⟩ := hrel
                obtain ⟨wr2, rfl⟩ : ∃ wo : World, wo = wr := ⟨_, rfl⟩
                by_cases hltq : q < 8
                · obtain ⟨hfj, b', o', e, hcell⟩ := (HB.out.later hE.rds.1) (p + q) (by have := HP10.out; omega)
                  cases e
                  have hl : beX F p q < 72057594037927936 := Nat.lt_of_lt_of_le (beX_lt q fun i hi => HF.out (p + i) (by have := HP10.out; omega)) (Nat.pow_le_pow_right (n := 256) (by decide) (show q ≤ 7 by omega))
                  have hs : beX F p (q + 1) = beX F p q * 256 + F (p + q) := rfl
                  generalize beX F p q = t at *
                  generalize F (p + q) = u at *
                  have j0 : (0 : Int) ≤ (p : Int) + (q : Int) := by omega
                  have j2 : (p : Int) + (q : Int) < (N : Int) := by have := HP10.out; omega
                  have j3 : ((p : Int) + (q : Int)).toNat = p + q := by omega
                  have q8 : (q : Int) < 8 := by omega
                  have m0 : IntKind.i64.wrap ((p : Int) + (q : Int)) = (p : Int) + (q : Int) := IntWalk.i64_in _ (by omega)
                  have m1 : IntKind.u64.wrap (256 * (t : Int)) = 256 * (t : Int) := by rw [IntKind.wrap_u64]; omega
                  have m2 : IntKind.u64.wrap (u : Int) = (u : Int) := by rw [IntKind.wrap_u64]; omega
                  have m3 : IntKind.u64.wrap (256 * (t : Int) + (u : Int)) = 256 * (t : Int) + (u : Int) := by rw [IntKind.wrap_u64]; omega
                  have y2 : wr2.cell? ⟨wr1.heap.size, 2, none⟩ = some (.int .u64 (t : Int)) := Blk.cell hE.blk 2
                  have z2 : wr2.frozen? ⟨wr1.heap.size, 2, none⟩ = false := Blk.free hE.blk 2
                  have HE4 := Lib.hid (RE.setv (j := 2) (v := .int .u64 (256 * (t : Int) + (u : Int))) hE rfl)
                  have HSS := Lib.hid hs
                  clear hE hs HE0
                  go_wp2_with fail
                  go_region
                  all_goals
                    go_wp2_with fail
                    go_roundw
                    case rel => exact ⟨q + 1, by omega, by go_num, by rw [show ((beX F p (q + 1) : Nat) : Int) = 256 * (t : Int) + (u : Int) by have := HSS.out; omega]; first | exact HE4.out | exact HE4.out.drew⟩
                    case measure => simp [intOf]; omega
                · obtain rfl : q = 8 := by omega
                  obtain ⟨T, hT⟩ : ∃ T, beX F p 8 = T := ⟨_, rfl⟩
                  rw [hT] at hE HDV
                  obtain ⟨_, _, _, e9, c9⟩ := (HB.out.later hE.rds.1) (p + 9) (by have := HP10.out; omega)
                  cases e9
                  rw [HF9.out] at c9
                  have y1' : wr2.cell? ⟨wr1.heap.size, 1, none⟩ = some (.slice none 0 0) := Blk.cell hE.blk 1
                  have z1' : wr2.frozen? ⟨wr1.heap.size, 1, none⟩ = false := Blk.free hE.blk 1
                  have gc : (p : Int) + 10 + (y : Int) ≤ (cap : Int) := by omega
                  have HE := Lib.hid hE
                  clear hE hltq hq hT HE0
                  by_cases hcap : p + 10 = cap
                  · have hy0 : y = 0 := by have := HC.out; omega
                    subst hy0
                    obtain rfl : cap = N := by have := HC.out; have := HP10.out; have := HYL.out; omega
                    have hcp : (p : Int) + 10 = (cap : Int) := by omega
                    clear hcap
                    have hE5 := RE.setv (j := 1) (v := .slice (some ⟨bb, oo, none⟩) 0 0) HE.out rfl
                    have hb5 := HB.out.later hE5.rds.1
                    obtain ⟨_, _, _, ex9, d9⟩ := hb5 (p + 9) (by have := HP10.out; omega)
                    cases ex9
                    rw [HF9.out] at d9
                    have v0 : (wr2.setCell ⟨wr1.heap.size, 1, none⟩ (.slice (some ⟨bb, oo, none⟩) 0 0)).cell? ⟨wr1.heap.size, 0, none⟩ = some (.int .u32 (X : Int)) := Blk.cell hE5.blk 0
                    have v1 : (wr2.setCell ⟨wr1.heap.size, 1, none⟩ (.slice (some ⟨bb, oo, none⟩) 0 0)).cell? ⟨wr1.heap.size, 1, none⟩ = some (.slice (some ⟨bb, oo, none⟩) 0 0) := Blk.cell hE5.blk 1
                    have v2 : (wr2.setCell ⟨wr1.heap.size, 1, none⟩ (.slice (some ⟨bb, oo, none⟩) 0 0)).cell? ⟨wr1.heap.size, 2, none⟩ = some (.int .u64 (T : Int)) := Blk.cell hE5.blk 2
                    have v3 : (wr2.setCell ⟨wr1.heap.size, 1, none⟩ (.slice (some ⟨bb, oo, none⟩) 0 0)).cell? ⟨wr1.heap.size, 3, none⟩ = some (.int .i64 (st : Int)) := Blk.cell hE5.blk 3
                    have s0 : (wr2.setCell ⟨wr1.heap.size, 1, none⟩ (.slice (some ⟨bb, oo, none⟩) 0 0)).cell? ⟨w.heap.size + 1, 0, none⟩ = some (.slice o k c) := Blk.cell hE5.rds.2.2 0
                    have HGs := Lib.hid hE5.row
                    have HIs : Hid (IsVer (wr2.setCell ⟨wr1.heap.size, 1, none⟩ (.slice (some ⟨bb, oo, none⟩) 0 0)) [.int .u32 (X : Int), .slice (some ⟨bb, oo, none⟩) 0 0, .int .u64 (T : Int), .int .i64 (st : Int)] (dV F cap true k)) := Lib.hid (by rw [HDV.out]; exact ⟨_, 0, rfl, (fun i hi => absurd hi (Nat.not_lt_zero _)), (fun h => by cases h), Nat.le_refl _, by unfold maxLen; omega⟩)
                    have HAW : Hid (Away (.slice o k c) [.int .u32 (X : Int), .slice (some ⟨bb, oo, none⟩) 0 0, .int .u64 (T : Int), .int .i64 (st : Int)]) := Lib.hid fun a l cp hm hl e => by
                      simp at hm
                      obtain ⟨rfl, rfl, rfl⟩ := hm
                      have h1 := (hE5.row.ownb _ e).1
                      have h2 := HBL.out
                      have h3 := HB1.out
                      have h4 : base ≤ bb := h1
                      omega
                    have HKs := Lib.hid (show (k + 1) * 48 ≤ 140737488355328 by have := Hcnb.out; omega)
                    have HBs := Lib.hid (show base ≤ (wr2.setCell ⟨wr1.heap.size, 1, none⟩ (.slice (some ⟨bb, oo, none⟩) 0 0)).heap.size by have h1 := hE5.2.1.2; have h2 := hE5.blk.lt; omega)
                    have HE5 := Lib.hid hE5
                    clear hE5 hb5
                    go_wp2_with (at_builtin; refine wpList_appVR rfl (.tmp 131) (.tmp 133) rfl base (.slice o k c) k (dV F cap true) [.int .u32 (X : Int), .slice (some ⟨bb, oo, none⟩) 0 0, .int .u64 (T : Int), .int .i64 (st : Int)] _ rfl HGs.out HIs.out HAW.out wr2.heap.size (by simp [World.setCell]) rfl HKs.out HBs.out ?_)
                    intro v9 w9 hG9 hgr9 hbe9 hsz9
                    obtain ⟨o9, cp9, rfl, _, _⟩ := hG9.slice
                    have hR9 := HE5.out.rds.belowB hbe9 HB1.out
                    have l9 : w9.cell? ⟨w.heap.size + 1, 0, none⟩ = some (.slice o k c) := Blk.cell hR9.2.2 0
                    have g9 : w9.frozen? ⟨w.heap.size + 1, 0, none⟩ = false := Blk.free hR9.2.2 0
                    have HGN := Lib.hid (hG9.set_apart (k := 0) (x := .slice o9 (k + 1) cp9) hR9.2.2 no_u8_3 HB1.out)
                    have HEN := Lib.hid (hR9.set0 o9 (k + 1) cp9)
                    have HBN : Hid (base ≤ (w9.setCell ⟨w.heap.size + 1, 0, none⟩ (.slice o9 (k + 1) cp9)).heap.size) := Lib.hid (by have h1 := HBs.out; simp [World.setCell] at h1 hsz9 ⊢; omega)
                    clear HGs HIs HBs HKs HAW hG9 hgr9 hbe9 hsz9 hR9 HE5 HE v0 v1 v2 v3 s0 d9
                    go_wp2_with fail
                    go_roundw
                    case rel => exact ⟨k + 1, p + 10 + 0, o9, cp9, base, by omega, by go_num, by first | go_num | (congr 1; omega), HDK.out, by omega, HEN.out, HB1.out, HBN.out, HGN.out⟩
                    case measure => simp [intOf]; omega
                  · have hcp : (p : Int) + 10 < (cap : Int) := by have := HC.out; omega
                    clear hcap y1' z1' c9
                    have y1' : wr2.cell? ⟨wr1.heap.size, 1, none⟩ = some (.slice none 0 0) := Blk.cell HE.out.blk 1
                    have z1' : wr2.frozen? ⟨wr1.heap.size, 1, none⟩ = false := Blk.free HE.out.blk 1
                    obtain ⟨_, _, _, e9, c9⟩ := (HB.out.later HE.out.rds.1) (p + 9) (by have := HP10.out; omega)
                    cases e9
                    rw [HF9.out] at c9
                    have hE5 := RE.setv (j := 1) (v := .slice (some ⟨bb, oo + (p + 10), none⟩) y (cap - (p + 10))) HE.out rfl
                    have hb5 := HB.out.later hE5.rds.1
                    obtain ⟨_, _, _, ex9, d9⟩ := hb5 (p + 9) (by have := HP10.out; omega)
                    cases ex9
                    rw [HF9.out] at d9
                    have v0 : (wr2.setCell ⟨wr1.heap.size, 1, none⟩ (.slice (some ⟨bb, oo + (p + 10), none⟩) y (cap - (p + 10)))).cell? ⟨wr1.heap.size, 0, none⟩ = some (.int .u32 (X : Int)) := Blk.cell hE5.blk 0
                    have v1 : (wr2.setCell ⟨wr1.heap.size, 1, none⟩ (.slice (some ⟨bb, oo + (p + 10), none⟩) y (cap - (p + 10)))).cell? ⟨wr1.heap.size, 1, none⟩ = some (.slice (some ⟨bb, oo + (p + 10), none⟩) y (cap - (p + 10))) := Blk.cell hE5.blk 1
                    have v2 : (wr2.setCell ⟨wr1.heap.size, 1, none⟩ (.slice (some ⟨bb, oo + (p + 10), none⟩) y (cap - (p + 10)))).cell? ⟨wr1.heap.size, 2, none⟩ = some (.int .u64 (T : Int)) := Blk.cell hE5.blk 2
                    have v3 : (wr2.setCell ⟨wr1.heap.size, 1, none⟩ (.slice (some ⟨bb, oo + (p + 10), none⟩) y (cap - (p + 10)))).cell? ⟨wr1.heap.size, 3, none⟩ = some (.int .i64 (st : Int)) := Blk.cell hE5.blk 3
                    have s0 : (wr2.setCell ⟨wr1.heap.size, 1, none⟩ (.slice (some ⟨bb, oo + (p + 10), none⟩) y (cap - (p + 10)))).cell? ⟨w.heap.size + 1, 0, none⟩ = some (.slice o k c) := Blk.cell hE5.rds.2.2 0
                    have HGs := Lib.hid hE5.row
                    have HIs : Hid (IsVer (wr2.setCell ⟨wr1.heap.size, 1, none⟩ (.slice (some ⟨bb, oo + (p + 10), none⟩) y (cap - (p + 10)))) [.int .u32 (X : Int), .slice (some ⟨bb, oo + (p + 10), none⟩) y (cap - (p + 10)), .int .u64 (T : Int), .int .i64 (st : Int)] (dV F N true k)) := Lib.hid (by rw [HDV.out]; exact ⟨_, (cap - (p + 10)), rfl, (fun i hi => by have hi' : i < y := hi; obtain ⟨h1, b2, o2, e2, hc2⟩ := hb5 (p + 10 + i) (by have h1 := HYL.out; have h2 := HP10.out; omega); cases e2; exact ⟨h1, bb, oo + (p + 10), rfl, by rw [Nat.add_assoc oo (p + 10) i]; exact hc2⟩), (fun h => by cases h), show y ≤ cap - (p + 10) by have h1 := HC.out; have h2 := HYL.out; have h3 := HP10.out; omega, show cap - (p + 10) ≤ maxLen by have := HM.out; omega⟩)
                    have HAW : Hid (Away (.slice o k c) [.int .u32 (X : Int), .slice (some ⟨bb, oo + (p + 10), none⟩) y (cap - (p + 10)), .int .u64 (T : Int), .int .i64 (st : Int)]) := Lib.hid fun a l cp hm hl e => by
                      simp at hm
                      obtain ⟨rfl, rfl, rfl⟩ := hm
                      have h1 := (hE5.row.ownb _ e).1
                      have h2 := HBL.out
                      have h3 := HB1.out
                      have h4 : base ≤ bb := h1
                      omega
                    have HKs := Lib.hid (show (k + 1) * 48 ≤ 140737488355328 by have := Hcnb.out; omega)
                    have HBs := Lib.hid (show base ≤ (wr2.setCell ⟨wr1.heap.size, 1, none⟩ (.slice (some ⟨bb, oo + (p + 10), none⟩) y (cap - (p + 10)))).heap.size by have h1 := hE5.2.1.2; have h2 := hE5.blk.lt; omega)
                    have HE5 := Lib.hid hE5
                    clear hE5 hb5
                    go_wp2_with (at_builtin; refine wpList_appVR rfl (.tmp 131) (.tmp 133) rfl base (.slice o k c) k (dV F N true) [.int .u32 (X : Int), .slice (some ⟨bb, oo + (p + 10), none⟩) y (cap - (p + 10)), .int .u64 (T : Int), .int .i64 (st : Int)] _ rfl HGs.out HIs.out HAW.out wr2.heap.size (by simp [World.setCell]) rfl HKs.out HBs.out ?_)
                    intro v9 w9 hG9 hgr9 hbe9 hsz9
                    obtain ⟨o9, cp9, rfl, _, _⟩ := hG9.slice
                    have hR9 := HE5.out.rds.belowB hbe9 HB1.out
                    have l9 : w9.cell? ⟨w.heap.size + 1, 0, none⟩ = some (.slice o k c) := Blk.cell hR9.2.2 0
                    have g9 : w9.frozen? ⟨w.heap.size + 1, 0, none⟩ = false := Blk.free hR9.2.2 0
                    have HGN := Lib.hid (hG9.set_apart (k := 0) (x := .slice o9 (k + 1) cp9) hR9.2.2 no_u8_3 HB1.out)
                    have HEN := Lib.hid (hR9.set0 o9 (k + 1) cp9)
                    have HBN : Hid (base ≤ (w9.setCell ⟨w.heap.size + 1, 0, none⟩ (.slice o9 (k + 1) cp9)).heap.size) := Lib.hid (by have h1 := HBs.out; simp [World.setCell] at h1 hsz9 ⊢; omega)
                    clear HGs HIs HBs HKs HAW hG9 hgr9 hbe9 hsz9 hR9 HE5 HE v0 v1 v2 v3 s0 d9
                    go_wp2_with fail
                    go_roundw
                    case rel => exact ⟨k + 1, p + 10 + y, o9, cp9, base, by omega, by go_num, by go_num, HDK.out, by omega, HEN.out, HB1.out, HBN.out, HGN.out⟩
                    case measure => simp [intOf]; omega
        · obtain rfl : k = cn := by omega
          have h1 : ¬ (k < k) := hlt
          clear hlt
          by_cases hp : p = N
          · subst hp
            obtain ⟨_, _, hsl, _, _, hVs⟩ := HG.out.vers
            cases hsl
            have HVs := Lib.hid hVs
            have l0 : wr1.cell? ⟨w.heap.size + 1, 0, none⟩ = some (.slice o k c) := Blk.cell HR2.out.2.2 0
            have l1 : wr1.cell? ⟨w.heap.size + 1, 1, none⟩ = some (.int .u32 (la : Int)) := Blk.cell HR2.out.2.2 1
            have l2 : wr1.cell? ⟨w.heap.size + 1, 2, none⟩ = some (.int .i64 (mx : Int)) := Blk.cell HR2.out.2.2 2
            have HKL := Lib.hid (show k ≤ maxLen by have := Hcnb.out; unfold maxLen; omega)
            have HVM := Lib.hid (fun i (_ : i < k) => show (dV F p true i).n < 4294967296 from Nat.mod_lt _ (by decide))
            by_cases hS : SecOk k la (mx : Int) (dV F p true)
            · have HS := Lib.hid hS
              clear hS hVs hpN
              go_wp2_with fail
              refine (rmay_yes o k c la (mx : Int) (dV F p true) _ HKL.out Hlab.out HVs.out HVM.out HS.out).mono ?_
              rintro e w7 ⟨rfl, hb7⟩
              have hR7 := HR2.out.later hb7
              have m0 : w7.cell? ⟨w.heap.size + 1, 0, none⟩ = some (.slice o k c) := Blk.cell hR7.2.2 0
              have m1 : w7.cell? ⟨w.heap.size + 1, 1, none⟩ = some (.int .u32 (la : Int)) := Blk.cell hR7.2.2 1
              have m2 : w7.cell? ⟨w.heap.size + 1, 2, none⟩ = some (.int .i64 (mx : Int)) := Blk.cell hR7.2.2 2
              have z0' : w7.cell? ⟨w.heap.size, 0, none⟩ = some (.slice none 0 0) := Blk.cell hR7.2.1 0
              have z1' : w7.cell? ⟨w.heap.size, 1, none⟩ = some (.int .u32 0) := Blk.cell hR7.2.1 1
              have z2' : w7.cell? ⟨w.heap.size, 2, none⟩ = some (.int .i64 0) := Blk.cell hR7.2.1 2
              have f0' : w7.frozen? ⟨w.heap.size, 0, none⟩ = false := Blk.free hR7.2.1 0
              have f1' : w7.frozen? ⟨w.heap.size, 1, none⟩ = false := Blk.free hR7.2.1 1
              have f2' : w7.frozen? ⟨w.heap.size, 2, none⟩ = false := Blk.free hR7.2.1 2
              have hX := hR7.2.1
              have A0 := Lib.hid (show (w7.setCell ⟨w.heap.size, 0, none⟩ (.slice o k c)).cell? ⟨w.heap.size, 0, none⟩ = some (.slice o k c) from Blk.cell (Blk.set hX 0 _) 0)
              have A1 := Lib.hid (show ((w7.setCell ⟨w.heap.size, 0, none⟩ (.slice o k c)).setCell ⟨w.heap.size, 1, none⟩ (.int .u32 (la : Int))).cell? ⟨w.heap.size, 1, none⟩ = some (.int .u32 (la : Int)) from Blk.cell (Blk.set (Blk.set hX 0 _) 1 _) 1)
              have A2 := Lib.hid (show (((w7.setCell ⟨w.heap.size, 0, none⟩ (.slice o k c)).setCell ⟨w.heap.size, 1, none⟩ (.int .u32 (la : Int))).setCell ⟨w.heap.size, 2, none⟩ (.int .i64 (mx : Int))).cell? ⟨w.heap.size, 2, none⟩ = some (.int .i64 (mx : Int)) from Blk.cell (Blk.set (Blk.set (Blk.set hX 0 _) 1 _) 2 _) 2)
              have HBW := Lib.hid hR7.1
              have hG7 := ((((HG.out.later hb7).set_apart (k := 0) (x := .slice o k c) hX no_u8_3 (by have := HB1.out; omega)).set_apart (k := 1) (x := .int .u32 (la : Int)) (hX.set 0 (.slice o k c)) no_u8_3 (by have := HB1.out; omega)).set_apart (k := 2) (x := .int .i64 (mx : Int)) ((hX.set 0 (.slice o k c)).set 1 (.int .u32 (la : Int))) no_u8_3 (by have := HB1.out; omega))
              obtain ⟨_, _, hsl, _, _, hV7⟩ := hG7.vers
              cases hsl
              have HV7 := Lib.hid hV7
              have HDO := Lib.hid (show DecOk F p true from ⟨by rw [Hcn.out, HK.out]; simp, by rw [Hcn.out, Hla.out, show dMax F p true = mx from HA1.out]; exact HS.out⟩)
              clear hX hR7 hb7 hG7 hV7 l0 l1 l2 z0 z1 z2 f0 f1 f2
              go_wp2_with fail
              refine bodyPost_ret (v := .tuple #[.agg #[.slice o k c, .int .u32 (la : Int), .int .i64 (mx : Int)], .int .i64 0]) ?_ rfl ⟨.inr ⟨HDO.out, o, c, by rw [Hcn.out, Hla.out, show dMax F p true = mx from HA1.out], by rw [Hcn.out]; exact HV7.out⟩, ?_⟩
              · simp [results, Tryd.results60, go_sem, A0.out, A1.out, A2.out]
              · exact (((HBW.out).setCell (by simp) _).setCell (by simp) _).setCell (by simp) _
            · have HS := Lib.hid hS
              have HNO := Lib.hid (show ¬ DecOk F p true from fun hd => HS.out (by have h2 := hd.2; rw [Hcn.out, Hla.out, show dMax F p true = mx from HA1.out] at h2; exact h2))
              clear hS hVs hpN
              go_wp2_with fail
              refine (rmay_no' o k c la (mx : Int) (dV F p true) _ HKL.out Hlab.out HVs.out HVM.out HS.out).mono ?_
              rintro e w7 ⟨rfl, hb7⟩
              have hR7 := HR2.out.later hb7
              have z0' : w7.cell? ⟨w.heap.size, 0, none⟩ = some (.slice none 0 0) := Blk.cell hR7.2.1 0
              have z1' : w7.cell? ⟨w.heap.size, 1, none⟩ = some (.int .u32 0) := Blk.cell hR7.2.1 1
              have z2' : w7.cell? ⟨w.heap.size, 2, none⟩ = some (.int .i64 0) := Blk.cell hR7.2.1 2
              have f0' : w7.frozen? ⟨w.heap.size, 0, none⟩ = false := Blk.free hR7.2.1 0
              have f1' : w7.frozen? ⟨w.heap.size, 1, none⟩ = false := Blk.free hR7.2.1 1
              have f2' : w7.frozen? ⟨w.heap.size, 2, none⟩ = false := Blk.free hR7.2.1 2
              have hX := hR7.2.1
              have A0 := Lib.hid (show (w7.setCell ⟨w.heap.size, 0, none⟩ (.slice none 0 0)).cell? ⟨w.heap.size, 0, none⟩ = some (.slice none 0 0) from Blk.cell (Blk.set hX 0 _) 0)
              have A1 := Lib.hid (show ((w7.setCell ⟨w.heap.size, 0, none⟩ (.slice none 0 0)).setCell ⟨w.heap.size, 1, none⟩ (.int .u32 0)).cell? ⟨w.heap.size, 1, none⟩ = some (.int .u32 0) from Blk.cell (Blk.set (Blk.set hX 0 _) 1 _) 1)
              have A2 := Lib.hid (show (((w7.setCell ⟨w.heap.size, 0, none⟩ (.slice none 0 0)).setCell ⟨w.heap.size, 1, none⟩ (.int .u32 0)).setCell ⟨w.heap.size, 2, none⟩ (.int .i64 0)).cell? ⟨w.heap.size, 2, none⟩ = some (.int .i64 0) from Blk.cell (Blk.set (Blk.set (Blk.set hX 0 _) 1 _) 2 _) 2)
              have HBW := Lib.hid hR7.1
              clear hX hR7 hb7 l0 l1 l2 z0 z1 z2 f0 f1 f2
              go_wp2_with fail
              refine bodyPost_ret (v := .tuple #[.agg #[.slice none 0 0, .int .u32 0, .int .i64 0], .int .i64 4]) ?_ rfl ⟨.inl ⟨HNO.out, rfl⟩, ?_⟩
              · simp [results, Tryd.results60, go_sem, A0.out, A1.out, A2.out]
              · exact (((HBW.out).setCell (by simp) _).setCell (by simp) _).setCell (by simp) _
          · have hpi : ((p : Int) != (N : Int)) = true := by rw [bne_iff_ne]; omega
            have HNO := Lib.hid (show ¬ DecOk F N true from fun hd => by have h2 := hd.1; rw [Hcn.out, HK.out] at h2; simp at h2; exact hp h2)
            have hX := HR2.out.2.1
            have A0 := Lib.hid (show (wr1.setCell ⟨w.heap.size, 0, none⟩ (.slice none 0 0)).cell? ⟨w.heap.size, 0, none⟩ = some (.slice none 0 0) from Blk.cell (Blk.set hX 0 _) 0)
            have A1 := Lib.hid (show ((wr1.setCell ⟨w.heap.size, 0, none⟩ (.slice none 0 0)).setCell ⟨w.heap.size, 1, none⟩ (.int .u32 0)).cell? ⟨w.heap.size, 1, none⟩ = some (.int .u32 0) from Blk.cell (Blk.set (Blk.set hX 0 _) 1 _) 1)
            have A2 := Lib.hid (show (((wr1.setCell ⟨w.heap.size, 0, none⟩ (.slice none 0 0)).setCell ⟨w.heap.size, 1, none⟩ (.int .u32 0)).setCell ⟨w.heap.size, 2, none⟩ (.int .i64 0)).cell? ⟨w.heap.size, 2, none⟩ = some (.int .i64 0) from Blk.cell (Blk.set (Blk.set (Blk.set hX 0 _) 1 _) 2 _) 2)
            have HBW := Lib.hid HR2.out.1
            clear hX hp hpN
            go_wp2_with fail
            refine bodyPost_ret (v := .tuple #[.agg #[.slice none 0 0, .int .u32 0, .int .i64 0], .int .i64 4]) ?_ rfl ⟨.inl ⟨HNO.out, rfl⟩, ?_⟩
            · simp [results, Tryd.results60, go_sem, A0.out, A1.out, A2.out]
            · exact (((HBW.out).setCell (by simp) _).setCell (by simp) _).setCell (by simp) _
end Go.Proofs.YtkaddilgegimjaaDoor
