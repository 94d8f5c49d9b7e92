/- Part of the proof: what stands here serves the walks of the functions that the statement calls. -/
import Derived.Test.YtncfocjmdecapaaGreatDoorY20
namespace Go.Proofs.YtncfocjmdecapaaGreatDoor
set_option linter.unusedVariables false
set_option linter.unusedSimpArgs false
open Go.RowKit
set_option maxRecDepth 100000
set_option maxHeartbeats 4000000
def cF (W : Nat → Nat) (j : Nat) : Nat := if j < 240 then numB (W (j / 4)) 4 (j % 4) else subN (j - 240)
theorem cF_word (W : Nat → Nat) {u v : Nat} (hu : u < 60) (hv : v < 4) : cF W (u * 4 + v) = numB (W u) 4 v := by
 unfold cF; rw [if_pos (by omega), show (u * 4 + v) / 4 = u by omega, show (u * 4 + v) % 4 = v by omega]
theorem cF_sub (W : Nat → Nat) (x : Nat) : cF W (240 + x) = subN x := by
 unfold cF; rw [if_neg (by omega), show 240 + x - 240 = x by omega]
def eN (W f : Nat → Nat) : Nat → Nat → Nat
 | 0 => f
 | k + 1 => encK subN W f k
theorem eN_lt {W f : Nat → Nat} (hf : ∀ i, i < 16 → f i < 256) : ∀ r i, i < 16 → eN W f r i < 256
 | 0, i, hi => hf i hi
 | k + 1, i, hi => encK_lt subN_lt hf k i hi
structure ER (w0 : World) (W : Nat → Nat) (f : Nat → Nat) (wr : World) : Prop where
 s : RBGG 71 496 w0.heap.size (cF W) wr
 b : A16 wr (w0.heap.size + 1) f
 z : A16 wr (w0.heap.size + 1 + 1) (fun _ => 0)
 o : Below w0.heap.size w0 wr
theorem ER.start (W f : Nat → Nat) (w : World) : ER w W f (((w.alloc (.cells (rowC 496 (cF W)).toArray 71)).alloc (.cells (rowC 16 f).toArray 72)).alloc (.cells zero16 72)) := by
 refine ⟨((Blk.new w _ 71).alloc _).alloc _, ?_, ?_, ((zA).alloc (by simp) _).alloc (by simp; omega) _⟩
 ·have := (Blk.new (w.alloc (.cells (rowC 496 (cF W)).toArray 71)) (rowC 16 f).toArray 72).alloc (.cells zero16 72)
  show Blk _ _ (rowC 16 f).toArray _; simpa using this
 ·have := Blk.new ((w.alloc (.cells (rowC 496 (cF W)).toArray 71)).alloc (.cells (rowC 16 f).toArray 72)) zero16 72
  show Blk _ _ zero16 _; simpa using this
theorem ER.below {w0 : World} {W f : Nat → Nat} {wr w' : World} (h : ER w0 W f wr) (hb : Below wr.heap.size wr w') : ER w0 W f w' :=
 ⟨Blk.below h.s hb (Blk.lt h.s), Blk.below h.b hb (Blk.lt h.b), Blk.below h.z hb (Blk.lt h.z), h.o.trans (hb.mono h.o.size)⟩
theorem ER.own {w0 : World} {W f : Nat → Nat} {b : Nat} {wr w' : World} (h : ER w0 W f wr) (hO : Own b wr w') (hb : w0.heap.size + 1 + 1 < b) : ER w0 W f w' :=
 ⟨hO.blk h.s (by omega), hO.blk h.b (by omega), hO.blk h.z (by omega), h.o.trans (hO.below (by omega) h.o.size)⟩
theorem ER.drew {w0 : World} {W f : Nat → Nat} {wr : World} (h : ER w0 W f wr) : ER w0 W f wr.drew := h.below (Below.refl _ wr).drew
theorem ER.set {w0 : World} {W f : Nat → Nat} {wr : World} (h : ER w0 W f wr) (k x : Nat) : ER w0 W (upd f k x) (wr.setCell ⟨w0.heap.size + 1, k, none⟩ (.int .u8 (x : Nat))) :=
 ⟨Blk.set_other h.s (by simp) _, h.b.set k x, Blk.set_other h.z (by simp) _, h.o.setCell (by simp) _⟩
theorem ER.congr {w0 : World} {W f g : Nat → Nat} {wr : World} (h : ER w0 W f wr) (he : ∀ i, i < 16 → f i = g i) : ER w0 W g wr := ⟨h.s, h.b.congr he, h.z, h.o⟩
theorem ER.store {w0 : World} {W f : Nat → Nat} {wr : World} (h : ER w0 W f wr) (g : Nat → Nat) {C : Array Value} (hC : (rowC 16 g).toArray = C) : ER w0 W g (wr.setCells (w0.heap.size + 1) 0 C.toList) := by
 subst hC
 have hO : Own (w0.heap.size + 1) wr (wr.setCells (w0.heap.size + 1) 0 (rowC 16 g).toArray.toList) := Own.setCells _ _ _
 exact ⟨hO.blk h.s (by omega), h.b.store g, hO.blk h.z (by omega), h.o.trans (hO.below (by omega) h.o.size)⟩
def EVG (w0 : World) (W f : Nat → Nat) (vb : Nat) (g : Nat → Nat) (wr : World) : Prop := ER w0 W f wr ∧ A16 wr vb g ∧ w0.heap.size + 1 + 1 < vb
theorem EVG.set {w0 : World} {W f g : Nat → Nat} {vb : Nat} {wr : World} (h : EVG w0 W f vb g wr) (k x : Nat) : EVG w0 W f vb (upd g k x) (wr.setCell ⟨vb, k, none⟩ (.int .u8 (x : Nat))) :=
 ⟨h.1.own ((Own.refl vb wr).set k _) h.2.2, h.2.1.set k x, h.2.2⟩
theorem EVG.congr {w0 : World} {W f g g' : Nat → Nat} {vb : Nat} {wr : World} (h : EVG w0 W f vb g wr) (he : ∀ i, i < 16 → g i = g' i) : EVG w0 W f vb g' wr := ⟨h.1, h.2.1.congr he, h.2.2⟩
theorem upd_step {p q : Nat → Nat} {i x : Nat} (hx : q i = x) : ∀ j, upd (fun j => if j < i then q j else p j) i x j = if j < i + 1 then q j else p j := fun j => by
 unfold upd
 by_cases e : j = i
 ·rw [if_pos e, e, if_pos (by omega), hx]
 ·rw [if_neg e]
  show (if j < i then q j else p j) = if j < i + 1 then q j else p j
  by_cases h5 : j < i
  ·rw [if_pos h5, if_pos (by omega)]
  ·rw [if_neg h5, if_neg (by omega)]
theorem renc_any (W f : Nat → Nat) (w : World) (hf : ∀ i, i < 16 → f i < 256) :
  Calls Tryz.prog 73 #[.agg (rowC 496 (cF W)).toArray, .agg (rowC 16 f).toArray] w fun e w' => e = .returned (.agg (rowC 16 (encK subN W f 14)).toArray) ∧ Below w.heap.size w w' := by
 have hz := zero16a_run
 have HL := zh (fun r => eN_lt (W := W) hf r)
 have HT := zh (ER.start W f w)
 obtain ⟨C0, hC0⟩ := zX ((rowC 496 (cF W)).toArray)
 obtain ⟨C1, hC1⟩ := zX ((rowC 16 f).toArray)
 rw [hC0, hC1] at HT ⊢
 clear hf hC0 hC1
 go_enter Tryz.func73, Tryz.ntmps73
 go_wp2_with fail
 go_loopw [5] (fun v wr => ∃ r : Nat, r ≤ 15 ∧ v = .int .i64 (r : Int) ∧ ER w W (eN W f r) wr) (fun v _ => 15 - (intOf v).toNat)
 case atStart => exact ⟨0, Nat.zero_le _, rfl, HT.out⟩
 case round =>
  clear HT
  obtain ⟨r, hr, rfl, hE⟩ := hrel
  have HE := zh hE
  clear hE
  by_cases hlt : r < 15
  ·have r0 : (0 : Int) ≤ (r : Int) := by omega
   have r1 : (r : Int) ≤ 14 := by omega
   have HR := zh hlt
   have HGL := zh (HL.out r)
   have HG1 : Hid (eN W f (r + 1) = encK subN W f r) := zh rfl
   obtain ⟨g, hg⟩ := zX (eN W f r)
   rw [hg] at HE HGL
   have HGE := zh hg
   clear hg hlt hr
   by_cases h0 : r = 0
   ·have HADD : Hid (eN W f (r + 1) = addK W r g) := zh (by rw [HG1.out, ← HGE.out, h0]; rfl)
    obtain rfl := h0
    rw [show ((0 : Nat) : Int) = 0 from rfl]
    clear hz HG1 HGE
    go_wp2_with fail
    go_loopw [8] (fun v wr => ∃ i : Nat, i ≤ 16 ∧ v = .int .i64 (i : Int) ∧ ER w W (fun j => if j < i then addK W 0 g j else g j) wr) (fun v _ => 16 - (intOf v).toNat)
    case atStart => exact ⟨0, Nat.zero_le _, rfl, HE.out.congr fun i _ => (if_neg (Nat.not_lt_zero _)).symm⟩
    case round =>
     clear HE
     obtain ⟨i, hi, rfl, hX⟩ := hrel
     have HX := zh hX
     clear hX
     by_cases hli : i < 16
     ·have i0 : (0 : Int) ≤ (i : Int) := by omega
      have i1 : (i : Int) < 16 := by omega
      have hr15 := HR.out
      obtain ⟨q, hq⟩ := zX (i / 4)
      skip
      obtain ⟨v, hv⟩ := zX (i % 4)
      have z0 : IntKind.i64.wrap (0 : Int) = 0 := rfl
      have z1 : IntKind.i64.wrap (0 + (q : Int)) = (q : Int) := by rw [Int.zero_add]; exact IntWalk.i64_in _ (by omega)
      have z2 : (0 : Int) + (q : Int) = (q : Int) := Int.zero_add _
      have s2 := tdk (m := 4) rfl hq
      have s3 : IntKind.i64.wrap (q : Int) = (q : Int) := IntWalk.i64_in _ (by omega)
      have s5 := tmk (m := 4) rfl hv
      have hu60 : q < 60 := by omega
      have hv4 : v < 4 := by omega
      obtain ⟨u0, u1⟩ : (0 : Int) ≤ (q : Int) ∧ (q : Int) < 60 := by omega
      obtain ⟨v0, v1⟩ : (0 : Int) ≤ (v : Int) ∧ (v : Int) < 4 := by omega
      have hgi := HGL.out i hli
      have hni := numB_lt (W q) 4 v
      have had : addK W 0 g i = g i ^^^ numB (W q) 4 v := by unfold addK; rw [hq, hv, show 4 * 0 + q = q by omega]
      obtain ⟨x, hx⟩ := zX (g i)
      obtain ⟨y, hy⟩ := zX (numB (W q) 4 v)
      obtain ⟨z, hz9⟩ := zX (addK W 0 g i)
      rw [hx] at hgi had
      rw [hy] at hni had
      rw [hz9] at had
      have xr : bits .xor .u8 (x : Int) (y : Int) = (z : Int) := by rw [had]; exact u8_xor_nat _ _ hgi hni
      have HP := HX.out.drew
      have ca : wr.drew.cell? ⟨w.heap.size + 1, i, none⟩ = some (.int .u8 (x : Nat)) := by
       have := HP.b.cell hli; rw [if_neg (Nat.lt_irrefl _), hx] at this; exact this
      have za : wr.drew.frozen? ⟨w.heap.size + 1, i, none⟩ = false := Blk.free HP.b _
      have cb : wr.drew.cell? ⟨w.heap.size, q * 4 + v, none⟩ = some (.int .u8 (y : Nat)) := HP.s.val (by omega) (by rw [cF_word W hu60 hv4, hy])
      have HN : Hid (ER w W (fun j => if j < i + 1 then addK W 0 g j else g j) (wr.drew.setCell ⟨w.heap.size + 1, i, none⟩ (.int .u8 (z : Nat)))) := zh ((HP.set i z).congr fun j _ => upd_step hz9 j)
      clear HP hx hy hz9 had hgi hni hq hv hu60 hv4 hi HX hr15
      go_wp2_with fail
      refine wp_region_still_tail 17 (by kernel_rfl) (by kernel_rfl) ?_
      simp only [List.take_succ_cons, List.take_zero, List.drop_succ_cons, List.drop_zero]
      change wpStill _ _ wr.drew (fun a' => wpList _ _ _ _ a' wr.drew) _ _
      generalize wr.drew = W0 at *
      repeat still_step
      refine wpStill_nil ?_
      clear s2 s3 s5 z0 z1 z2
      go_wp2_with fail
      go_roundw
      case rel => exact ⟨i + 1, by omega, by go_num, HN.out⟩
      case measure => simp [intOf] <;> omega
     ·obtain rfl : i = 16 := by omega
      have HN : Hid (ER w W (eN W f (0 + 1)) wr) := zh (by rw [HADD.out]; exact HX.out.congr fun j hj => if_pos hj)
      clear HX hli hi HADD
      have hr15 := HR.out
      go_wp2_with fail
      go_roundw
      case rel => exact ⟨0 + 1, by omega, by go_num, HN.out⟩
      case measure => simp [intOf] <;> omega
   ·obtain ⟨vb, hvb⟩ := zX wr.heap.size
    obtain ⟨wv, hwv⟩ := zX (wr.alloc (.cells zero16 72))
    have HV : Hid (EVG w W g vb (fun _ => 0) wv) := zh (by
     have hlt := Blk.lt HE.out.z
     rw [← hwv, ← hvb]
     exact ⟨HE.out.below (zA), Blk.new wr zero16 _, by omega⟩)
    have r2 : (0 : Int) < (r : Int) := by omega
    have HR0 := zh h0
    clear h0 HE
    go_wp2_with fail
    clear hwv hvb hz
    go_loopw [7] (fun v wr => ∃ i : Nat, i ≤ 16 ∧ v = .int .i64 (i : Int) ∧ EVG w W g vb (fun j => if j < i then mvA subN g j else 0) wr) (fun v _ => 16 - (intOf v).toNat)
    case atStart => exact ⟨0, Nat.zero_le _, rfl, HV.out.congr fun i _ => (if_neg (Nat.not_lt_zero _)).symm⟩
    case round =>
     clear HV
     obtain ⟨i, hi, rfl, hX⟩ := hrel
     have HX := zh hX
     clear hX
     by_cases hli : i < 16
     ·have i0 : (0 : Int) ≤ (i : Int) := by omega
      have i1 : (i : Int) < 16 := by omega
      have hmv : mvA subN g i = subN (g ((i + 4 * (i % 4)) % 16)) := by unfold mvA; rw [ref_mv i hli]
      obtain ⟨a, ha⟩ := zX (i % 4)
      obtain ⟨b, hb⟩ := zX (4 * a)
      obtain ⟨c, hc⟩ := zX (i + b)
      obtain ⟨d, hd⟩ := zX (c % 16)
      rw [ha, hb, hc, hd] at hmv
      have e1 : (i : Int) % 4 = (a : Int) := by omega
      have e2 : 4 * (a : Int) = (b : Int) := by omega
      have e3 : (i : Int) + (b : Int) = (c : Int) := by omega
      have e4 : (c : Int) % 16 = (d : Int) := by omega
      have a0 : (0 : Int) ≤ (a : Int) := by omega
      have a1 : (a : Int) < 4 := by omega
      have b0 : (0 : Int) ≤ (b : Int) := by omega
      have b1 : (b : Int) < 16 := by omega
      have c0 : (0 : Int) ≤ (c : Int) := by omega
      have c1 : (c : Int) < 32 := by omega
      have d0 : (0 : Int) ≤ (d : Int) := by omega
      have d1 : (d : Int) < 16 := by omega
      have hd16 : d < 16 := by omega
      have hx8 := HGL.out d hd16
      obtain ⟨x, hx⟩ := zX (g d)
      obtain ⟨y, hy⟩ := zX (subN x)
      rw [hx] at hx8 hmv
      rw [hy] at hmv
      have x0 : (0 : Int) ≤ (x : Int) := by omega
      have x1 : (x : Int) < 256 := by omega
      have ca : wr.cell? ⟨w.heap.size + 1, d, none⟩ = some (.int .u8 (x : Nat)) := by
       have := HX.out.1.b.cell hd16; rw [hx] at this; exact this
      have cb : wr.cell? ⟨w.heap.size, 240 + x, none⟩ = some (.int .u8 (y : Nat)) := HX.out.1.s.val (by omega) (by rw [cF_sub W x, hy])
      have cc : wr.cell? ⟨vb, i, none⟩ = some (.int .u8 0) := by
       have := HX.out.2.1.cell hli; rw [if_neg (Nat.lt_irrefl _)] at this; exact this
      have zc : wr.frozen? ⟨vb, i, none⟩ = false := Blk.free HX.out.2.1 _
      have HN : Hid (EVG w W g vb (fun j => if j < i + 1 then mvA subN g j else 0) (wr.setCell ⟨vb, i, none⟩ (.int .u8 (y : Nat)))) := zh ((HX.out.set i y).congr fun j _ => upd_step (p := fun _ => 0) hmv j)
      clear hmv ha hb hc hd hd16 hx hy hx8 HX hi
      go_wp2_with fail
      go_roundw
      case rel => exact ⟨i + 1, by omega, by go_num, HN.out⟩
      case measure => simp [intOf] <;> omega
     ·obtain rfl : i = 16 := by omega
      obtain ⟨M, hM⟩ := zX ((rowC 16 (mvA subN g)).toArray)
      obtain ⟨G, hG⟩ := zX ((rowC 16 g).toArray)
      have HCM : Hid (∃ f, M = (rowC 16 f).toArray) := zh ⟨_, hM.symm⟩
      have HCG : Hid (∃ f, G = (rowC 16 f).toArray) := zh ⟨_, hG.symm⟩
      have HY5 : Hid (Blk wr vb M 72) := zh (hM ▸ (HX.out.2.1.congr fun j hj => if_pos hj))
      have HB5 : Hid (Blk wr (w.heap.size + 1) G 72) := zh (hG ▸ HX.out.1.b)
      obtain ⟨w5, hw5⟩ := zX (wr.setCells (w.heap.size + 1) 0 M.toList)
      have H5 : Hid (ER w W (mvA subN g) w5) := zh (by rw [← hw5]; exact HX.out.1.store _ hM)
      have hr15 := HR.out
      clear HX hli hi hG
      by_cases h14 : r < 14
      ·have r3 : (r : Int) < 14 := by omega
       obtain ⟨X, hX⟩ := zX ((rowC 16 (mxA (mvA subN g))).toArray)
       have HCX : Hid (∃ f, X = (rowC 16 f).toArray) := zh ⟨_, hX.symm⟩
       have HB6 : Hid (Blk w5 (w.heap.size + 1) M 72) := zh (hM ▸ H5.out.b)
       have HMX : Hid (∀ w', Calls Tryz.prog 89 #[.agg M] w' fun e w'' => e = .returned (.agg X) ∧ Below w'.heap.size w' w'') := zh fun w' => by
        rw [← hM, ← hX]; exact rmixed_any _ w' fun i _ => mvA_lt subN_lt i
       have HMM := zh hM
       have HXX := zh hX
       have HADD : Hid (eN W f (r + 1) = addK W r (mxA (mvA subN g))) := zh (by
        obtain ⟨k, rfl⟩ : ∃ k, r = k + 1 := ⟨r - 1, by have := HR0.out; omega⟩
        rw [HG1.out, ← HGE.out]
        show addK W (k + 1) (if k + 1 < 14 then mxA (mvA subN (encK subN W f k)) else mvA subN (encK subN W f k)) = _
        rw [if_pos h14]; rfl)
       have HGM : Hid (∀ i, i < 16 → mxA (mvA subN g) i < 256) := zh (mxA_lt fun i _ => mvA_lt subN_lt i)
       clear hM hX h14 hr15 HG1 HGE HGL
       go_wp2_with (first
        | (refine wpList_load16a rfl (.tmp 6) rfl vb rfl M HY5.out HCM.out ?_)
        | (refine wpList_store16a rfl (.tmp 3) (.tmp 32) rfl (w.heap.size + 1) rfl M G rfl HB5.out HCM.out HCG.out ?_; rw [hw5])
        | (refine wpList_load16a rfl (.tmp 3) rfl (w.heap.size + 1) rfl M HB6.out HCM.out ?_))
       refine (HMX.out _).mono ?_
       rintro e w6 ⟨rfl, hb6⟩
       have H6 := zh (H5.out.below hb6)
       have HB7 : Hid (Blk w6 (w.heap.size + 1) M 72) := zh (HMM.out ▸ H6.out.b)
       obtain ⟨w7, hw7⟩ := zX (w6.setCells (w.heap.size + 1) 0 X.toList)
       obtain ⟨h, hh⟩ := zX (mxA (mvA subN g))
       have H7 : Hid (ER w W h w7) := zh (by rw [← hw7, ← hh]; exact H6.out.store _ HXX.out)
       rw [hh] at HADD HGM
       have HGL := HGM
       clear hb6 H5 H6 hh HMM HXX HB6 HY5 HB5 hw5 HGM HMX
       go_wp2_with (first
        | (refine wpList_store16a rfl (.tmp 3) (.tmp 40) rfl (w.heap.size + 1) rfl X M rfl HB7.out HCX.out HCM.out ?_; rw [hw7]))
       clear HB7 hw7
       go_loopw [8] (fun v wr => ∃ i : Nat, i ≤ 16 ∧ v = .int .i64 (i : Int) ∧ ER w W (fun j => if j < i then addK W r h j else h j) wr) (fun v _ => 16 - (intOf v).toNat)
       case atStart => exact ⟨0, Nat.zero_le _, rfl, H7.out.congr fun i _ => (if_neg (Nat.not_lt_zero _)).symm⟩
       case round =>
        clear H7
        obtain ⟨i, hi, rfl, hX⟩ := hrel
        have HX := zh hX
        clear hX
        by_cases hli : i < 16
        ·have i0 : (0 : Int) ≤ (i : Int) := by omega
         have i1 : (i : Int) < 16 := by omega
         have hr15 := HR.out
         obtain ⟨q, hq⟩ := zX (i / 4)
         obtain ⟨a, ha⟩ := zX (4 * r)
         obtain ⟨u, hu⟩ := zX (a + q)
         obtain ⟨v, hv⟩ := zX (i % 4)
         have s1 := wrn (m := 4) rfl ha (by omega)
         have s2 := tdk (m := 4) rfl hq
         have s3 : IntKind.i64.wrap (q : Int) = (q : Int) := IntWalk.i64_in _ (by omega)
         have s4 := wrs hu (by omega)
         have s5 := tmk (m := 4) rfl hv
         have hu60 : u < 60 := by omega
         have hv4 : v < 4 := by omega
         obtain ⟨u0, u1⟩ : (0 : Int) ≤ (u : Int) ∧ (u : Int) < 60 := by omega
         obtain ⟨v0, v1⟩ : (0 : Int) ≤ (v : Int) ∧ (v : Int) < 4 := by omega
         have hgi := HGL.out i hli
         have hni := numB_lt (W u) 4 v
         have had : addK W r h i = h i ^^^ numB (W u) 4 v := by unfold addK; rw [hq, hv, ha, hu]
         obtain ⟨x, hx⟩ := zX (h i)
         obtain ⟨y, hy⟩ := zX (numB (W u) 4 v)
         obtain ⟨z, hz9⟩ := zX (addK W r h i)
         rw [hx] at hgi had
         rw [hy] at hni had
         rw [hz9] at had
         have xr : bits .xor .u8 (x : Int) (y : Int) = (z : Int) := by rw [had]; exact u8_xor_nat _ _ hgi hni
         have HP := HX.out.drew
         have ca : wr.drew.cell? ⟨w.heap.size + 1, i, none⟩ = some (.int .u8 (x : Nat)) := by
          have := HP.b.cell hli; rw [if_neg (Nat.lt_irrefl _), hx] at this; exact this
         have za : wr.drew.frozen? ⟨w.heap.size + 1, i, none⟩ = false := Blk.free HP.b _
         have cb : wr.drew.cell? ⟨w.heap.size, u * 4 + v, none⟩ = some (.int .u8 (y : Nat)) := HP.s.val (by omega) (by rw [cF_word W hu60 hv4, hy])
         have HN : Hid (ER w W (fun j => if j < i + 1 then addK W r h j else h j) (wr.drew.setCell ⟨w.heap.size + 1, i, none⟩ (.int .u8 (z : Nat)))) := zh ((HP.set i z).congr fun j _ => upd_step hz9 j)
         clear HP hx hy hz9 had hgi hni hq hu hv ha hu60 hv4 hi HX hr15
         go_wp2_with fail
         refine wp_region_still_tail 17 (by kernel_rfl) (by kernel_rfl) ?_
         simp only [List.take_succ_cons, List.take_zero, List.drop_succ_cons, List.drop_zero]
         change wpStill _ _ wr.drew (fun a' => wpList _ _ _ _ a' wr.drew) _ _
         generalize wr.drew = W0 at *
         repeat still_step
         refine wpStill_nil ?_
         clear s1 s2 s3 s4 s5
         go_wp2_with fail
         go_roundw
         case rel => exact ⟨i + 1, by omega, by go_num, HN.out⟩
         case measure => simp [intOf] <;> omega
        ·obtain rfl : i = 16 := by omega
         have HN : Hid (ER w W (eN W f (r + 1)) wr) := zh (by rw [HADD.out]; exact HX.out.congr fun j hj => if_pos hj)
         clear HX hli hi HADD
         have hr15 := HR.out
         go_wp2_with fail
         go_roundw
         case rel => exact ⟨r + 1, by omega, by go_num, HN.out⟩
         case measure => simp [intOf] <;> omega
      ·have r3 : ¬ (r : Int) < 14 := by omega
       have HMM := zh hM
       have HADD : Hid (eN W f (r + 1) = addK W r (mvA subN g)) := zh (by
        obtain ⟨k, rfl⟩ : ∃ k, r = k + 1 := ⟨r - 1, by have := HR0.out; omega⟩
        rw [HG1.out, ← HGE.out]
        show addK W (k + 1) (if k + 1 < 14 then mxA (mvA subN (encK subN W f k)) else mvA subN (encK subN W f k)) = _
        rw [if_neg h14]; rfl)
       have HGM : Hid (∀ i, i < 16 → mvA subN g i < 256) := zh (fun i _ => mvA_lt subN_lt i)
       obtain ⟨h, hh⟩ := zX (mvA subN g)
       rw [hh] at H5 HADD HGM
       clear hM hr15 h14 HG1 HGE HGL hh
       have HGL := HGM
       clear HGM
       go_wp2_with (first
        | (refine wpList_load16a rfl (.tmp 6) rfl vb rfl M HY5.out HCM.out ?_)
        | (refine wpList_store16a rfl (.tmp 3) (.tmp 32) rfl (w.heap.size + 1) rfl M G rfl HB5.out HCM.out HCG.out ?_; rw [hw5]))
       clear HB5 hw5 HY5
       go_loopw [8] (fun v wr => ∃ i : Nat, i ≤ 16 ∧ v = .int .i64 (i : Int) ∧ ER w W (fun j => if j < i then addK W r h j else h j) wr) (fun v _ => 16 - (intOf v).toNat)
       case atStart => exact ⟨0, Nat.zero_le _, rfl, H5.out.congr fun i _ => (if_neg (Nat.not_lt_zero _)).symm⟩
       case round =>
        clear H5
        obtain ⟨i, hi, rfl, hX⟩ := hrel
        have HX := zh hX
        clear hX
        by_cases hli : i < 16
        ·have i0 : (0 : Int) ≤ (i : Int) := by omega
         have i1 : (i : Int) < 16 := by omega
         have hr15 := HR.out
         obtain ⟨q, hq⟩ := zX (i / 4)
         obtain ⟨a, ha⟩ := zX (4 * r)
         obtain ⟨u, hu⟩ := zX (a + q)
         obtain ⟨v, hv⟩ := zX (i % 4)
         have s1 := wrn (m := 4) rfl ha (by omega)
         have s2 := tdk (m := 4) rfl hq
         have s3 : IntKind.i64.wrap (q : Int) = (q : Int) := IntWalk.i64_in _ (by omega)
         have s4 := wrs hu (by omega)
         have s5 := tmk (m := 4) rfl hv
         have hu60 : u < 60 := by omega
         have hv4 : v < 4 := by omega
         obtain ⟨u0, u1⟩ : (0 : Int) ≤ (u : Int) ∧ (u : Int) < 60 := by omega
         obtain ⟨v0, v1⟩ : (0 : Int) ≤ (v : Int) ∧ (v : Int) < 4 := by omega
         have hgi := HGL.out i hli
         have hni := numB_lt (W u) 4 v
         have had : addK W r h i = h i ^^^ numB (W u) 4 v := by unfold addK; rw [hq, hv, ha, hu]
         obtain ⟨x, hx⟩ := zX (h i)
         obtain ⟨y, hy⟩ := zX (numB (W u) 4 v)
         obtain ⟨z, hz9⟩ := zX (addK W r h i)
         rw [hx] at hgi had
         rw [hy] at hni had
         rw [hz9] at had
         have xr : bits .xor .u8 (x : Int) (y : Int) = (z : Int) := by rw [had]; exact u8_xor_nat _ _ hgi hni
         have HP := HX.out.drew
         have ca : wr.drew.cell? ⟨w.heap.size + 1, i, none⟩ = some (.int .u8 (x : Nat)) := by
          have := HP.b.cell hli; rw [if_neg (Nat.lt_irrefl _), hx] at this; exact this
         have za : wr.drew.frozen? ⟨w.heap.size + 1, i, none⟩ = false := Blk.free HP.b _
         have cb : wr.drew.cell? ⟨w.heap.size, u * 4 + v, none⟩ = some (.int .u8 (y : Nat)) := HP.s.val (by omega) (by rw [cF_word W hu60 hv4, hy])
         have HN : Hid (ER w W (fun j => if j < i + 1 then addK W r h j else h j) (wr.drew.setCell ⟨w.heap.size + 1, i, none⟩ (.int .u8 (z : Nat)))) := zh ((HP.set i z).congr fun j _ => upd_step hz9 j)
         clear HP hx hy hz9 had hgi hni hq hu hv ha hu60 hv4 hi HX hr15
         go_wp2_with fail
         refine wp_region_still_tail 17 (by kernel_rfl) (by kernel_rfl) ?_
         simp only [List.take_succ_cons, List.take_zero, List.drop_succ_cons, List.drop_zero]
         change wpStill _ _ wr.drew (fun a' => wpList _ _ _ _ a' wr.drew) _ _
         generalize wr.drew = W0 at *
         repeat still_step
         refine wpStill_nil ?_
         clear s1 s2 s3 s4 s5
         go_wp2_with fail
         go_roundw
         case rel => exact ⟨i + 1, by omega, by go_num, HN.out⟩
         case measure => simp [intOf] <;> omega
        ·obtain rfl : i = 16 := by omega
         have HN : Hid (ER w W (eN W f (r + 1)) wr) := zh (by rw [HADD.out]; exact HX.out.congr fun j hj => if_pos hj)
         clear HX hli hi HADD
         have hr15 := HR.out
         go_wp2_with fail
         go_roundw
         case rel => exact ⟨r + 1, by omega, by go_num, HN.out⟩
         case measure => simp [intOf] <;> omega
  ·obtain rfl : r = 15 := by omega
   obtain ⟨E, hE⟩ := zX ((rowC 16 (encK subN W f 14)).toArray)
   have HCE : Hid (∃ f, E = (rowC 16 f).toArray) := zh ⟨_, hE.symm⟩
   have HC0 : Hid (∃ f, zero16 = (rowC 16 f).toArray) := zh ⟨_, rfl⟩
   have HX5 : Hid (Blk wr (w.heap.size + 1) E 72) := zh (hE ▸ HE.out.b)
   have HR5 : Hid (Blk wr (w.heap.size + 1 + 1) zero16 72) := zh HE.out.z
   have HN : Hid (Blk (wr.setCells (w.heap.size + 1 + 1) 0 E.toList) (w.heap.size + 1 + 1) E 72) := zh (Blk.store16a HR5.out HCE.out HC0.out)
   have HO5 : Hid (Below w.heap.size w (wr.setCells (w.heap.size + 1 + 1) 0 E.toList)) := zh (Below.set16 (g := w.heap.size + 1 + 1) HE.out.o (by omega) HE.out.o.size _)
   have HEE := zh hE
   clear HE hE hlt hr hz
   go_wp2_with (first
    | (refine wpList_load16a rfl (.tmp 3) rfl (w.heap.size + 1) rfl E HX5.out HCE.out ?_)
    | (refine wpList_store16a rfl (.tmp 4) (.tmp 62) rfl (w.heap.size + 1 + 1) rfl E zero16 rfl HR5.out HCE.out HC0.out ?_))
   refine bodyPost_ret (v := .agg E) ?_ rfl ⟨by rw [HEE.out], HO5.out⟩
   exact res16a Tryz.results73 _ _ (w.heap.size + 1 + 1) E rfl HN.out HCE.out
set_option maxRecDepth 512
set_option maxHeartbeats 200000
theorem size256r (f : Nat → Nat) : (rowC 256 f).toArray.size = 256 := by rw [List.size_toArray, rowC_len]
theorem info39 (v : Nat → Nat) : (Tryz.prog.info? 69).map (·.size) = some (rowC 256 v).toArray.size := by rw [size256r]; kernel_rfl
theorem build41 (F : Nat → Nat) (w : World) : (Instr.build 71 #[(0, .agg (rowC 240 F).toArray), (1, .agg (rowC 256 subN).toArray)]).run Tryz.prog w = .ok (.agg (rowC 496 (fun j => if j < 240 then F j else subN (j - 240))).toArray) w :=
 run_build w 71 _ _ (by kernel_rfl)
theorem exec_build41 {o : Oper} {a : Act} {w : World} {C : Array Value} {parts : Array (Nat × Operand)} {ps : Array (Nat × Value)} (ho : o.op = .build 71 parts) (hp : (parts.map fun (i, x) => (i, a.eval x)) = ps) (h : ∀ w, (Instr.build 71 ps).run Tryz.prog w = .ok (.agg C) w) : (execOp a.eval o).run Tryz.prog w = .ok (.value (.agg C)) w := by
 unfold execOp
 simp only [ho, hp, Sem.run_bind, h, Result.andThen_ok]
 rfl
theorem exec_load39 {o : Oper} {a : Act} {w : World} {g : Nat} {C : Array Value} {x : Operand} (ho : o.op = .load 69 x) (hx : a.eval x = .pointer (some ⟨g, 0, none⟩)) (hB : Blk w g C 69) (hs : (Tryz.prog.info? 69).map (·.size) = some C.size) : (execOp a.eval o).run Tryz.prog w = .ok (.value (.agg C)) w := by
 unfold execOp
 simp only [ho, hx, Instr.loadAt, Instr.sureAddr, Sem.run_bind, Sem.run_pure, Result.andThen_ok, run_loadVar_row w g 69 69 C (0, 0) _ hB Tryz.underlying69 rfl hs]
theorem there_all {w : World} {g n : Nat} {t : TypeId} {f : Nat → Nat} (h : RBGG t n g f w) {C : Array Value} (hs : C.size = n) : w.there g 0 C.size := by
 rw [hs]; exact Blk.there h (by rw [List.size_toArray, rowC_len]; exact Nat.le_refl _)
theorem bytes_out {w : World} {oa : Option Addr} {f : Nat → Nat} (hb : Bytes w oa 32 f) : ∃ kb off, oa = some ⟨kb, off, none⟩ ∧ kb < w.heap.size ∧ ∀ i, i < 32 → w.cell? ⟨kb, off + i, none⟩ = some (.int .u8 (f i : Nat)) := by
 obtain ⟨_, kb, off, rfl, hc0⟩ := hb 0 (by decide)
 refine ⟨kb, off, rfl, ?_, fun i hi => ?_⟩
 ·rcases Nat.lt_or_ge kb w.heap.size with h' | h'
  ·exact h'
  ·simp [World.cell?, Array.getElem?_eq_none h'] at hc0
 ·obtain ⟨_, b', o', e, hc⟩ := hb i hi
  cases e; exact hc
def zero496 : Array Value := (rowC 496 (fun _ => 0)).toArray
theorem zero496_run (w : World) : (zeroValue 71).run Tryz.prog w = .ok (.agg zero496) w := by kernel_rfl
theorem size496 (v : Nat → Nat) : (rowC 496 v).toArray.size = 496 := by rw [List.size_toArray, rowC_len]
theorem info41 (v : Nat → Nat) : (Tryz.prog.info? 71).map (·.size) = some (rowC 496 v).toArray.size := by rw [size496]; kernel_rfl
theorem one496 (v : Nat → Nat) : (rowC 496 v).toArray.all (·.oneCell') = true := all_oneCell_toArray (rowC_one _ _)
set_option maxRecDepth 100000
set_option maxHeartbeats 4000000
structure RY (w0 : World) (gT : Nat) (C : Array Value) (wr : World) : Prop where
 t : Blk wr gT C 69
 r : RBGG 71 496 w0.heap.size (fun _ => 0) wr
 o : Below w0.heap.size w0 wr
 n : w0.heap.size < gT
theorem RY.below {w0 : World} {gT : Nat} {C : Array Value} {wr w' : World} (h : RY w0 gT C wr) (hb : Below wr.heap.size wr w') : RY w0 gT C w' :=
 ⟨Blk.below h.t hb (Blk.lt h.t), Blk.below h.r hb (Blk.lt h.r), h.o.trans (hb.mono h.o.size), h.n⟩
def TB (g : Nat) (C : Array Value) (w : World) : Prop := Blk w g C 69
def zero256r : Array Value := (rowC 256 (fun _ => 0)).toArray
theorem zero256r_run (w : World) : (zeroValue 69).run Tryz.prog w = .ok (.agg zero256r) w := by kernel_rfl
theorem rReady_any (f : Nat → Nat) (oa : Option Addr) (cap : Nat) (w : World) (hb : Bytes w oa 32 f) :
  Calls Tryz.prog 72 #[.slice oa 32 cap] w fun e w' => e = .returned (.agg (rowC 496 (cF (exK f 60))).toArray) ∧ Below w.heap.size w w' := by
 have hf : ∀ i, i < 32 → f i < 256 := fun i hi => (hb i hi).1
 obtain ⟨kb, off, rfl, hkl, hk⟩ := bytes_out hb
 have hz := zero496_run
 have hz2 := zero256r_run
 obtain ⟨C, hC⟩ := zX ((rowC 256 subN).toArray)
 obtain ⟨E, hE⟩ := zX ((rowC 240 (dF f)).toArray)
 obtain ⟨G, hG⟩ := zX ((rowC 496 (cF (exK f 60))).toArray)
 have HTB : Hid (∀ w', Calls Tryz.prog 87 #[] w' fun e w'' => e = .returned (.agg C) ∧ Below w'.heap.size w' w'') := zh fun w' => by rw [← hC]; exact table_any w'
 have HWD : Hid (∀ w', Below w.heap.size w w' → Calls Tryz.prog 88 #[.slice (some ⟨kb, off, none⟩) 32 cap, .agg C] w' fun e w'' => e = .returned (.agg E) ∧ Below w'.heap.size w' w'') := zh fun w' h => by
  rw [← hC, ← hE]; exact rwords_any f kb off cap w' hf fun i hi => cell_belowB h hkl (hk i hi)
 have HBD : Hid (∀ w', (Instr.build 71 #[(0, .agg E), (1, .agg C)]).run Tryz.prog w' = .ok (.agg G) w') := zh fun w' => by
  rw [← hC, ← hE, build41 (dF f) w', ← hG]; rfl
 have hI3 : (Tryz.prog.info? 69).map (·.size) = some C.size := by rw [← hC]; exact info39 _
 have hI4 : C.all (·.oneCell') = true := by rw [← hC]; exact all_oneCell_toArray (rowC_one _ _)
 have hCS : C.size = 256 := by rw [← hC]; exact size256r _
 have HCB : Hid (∀ w' g, RBGG 69 256 g (fun _ => 0) w' → Blk (w'.setCells g 0 C.toList) g C 69) := zh fun w' g h => by
  rw [← hC]; exact Blk.setCells h (rowC 256 subN) (by rw [size256r, rowC_len])
 have hI : (Tryz.prog.info? 71).map (·.size) = some G.size := by rw [← hG]; exact info41 _
 have hI1 : G.all (·.oneCell') = true := by rw [← hG]; exact one496 _
 have hGS : G.size = 496 := by rw [← hG]; exact size496 _
 have HGB : Hid (∀ w', RBGG 71 496 w.heap.size (fun _ => 0) w' → Blk (w'.setCells w.heap.size 0 G.toList) w.heap.size G 71) := zh fun w' h => by
  rw [← hG]; exact Blk.setCells h (rowC 496 _) (by rw [size496, rowC_len])
 obtain ⟨w1, hw1⟩ := zX (w.alloc (.cells zero496 71))
 have H1 : Hid (RBGG 71 496 w.heap.size (fun _ => 0) w1 ∧ Below w.heap.size w w1) := zh ⟨by rw [← hw1]; exact Blk.new w zero496 _, by rw [← hw1]; exact zA⟩
 have HI := zh hI
 have HI1 := zh hI1
 have HGS := zh hGS
 have HI3 := zh hI3
 have HI4 := zh hI4
 have HCS := zh hCS
 rw [hG]
 clear hf hk hkl hb hC hE hG hI hI1 hGS hI3 hI4 hCS
 go_enter Tryz.func72, Tryz.ntmps72
 go_wp2_with fail
 clear hw1 hz
 refine (HTB.out _).mono ?_
 rintro e w2 ⟨rfl, hb2⟩
 have H2 : Hid (RBGG 71 496 w.heap.size (fun _ => 0) w2 ∧ Below w.heap.size w w2) := zh ⟨Blk.below H1.out.1 hb2 (Blk.lt H1.out.1), H1.out.2.trans (hb2.mono H1.out.2.size)⟩
 clear hb2 H1
 obtain ⟨gT, hgT⟩ := zX w2.heap.size
 obtain ⟨wa, hwa⟩ := zX (w2.alloc (.cells zero256r 69))
 obtain ⟨w3, hw3⟩ := zX (wa.setCells gT 0 C.toList)
 have HWA : Hid (RBGG 69 256 gT (fun _ => 0) wa) := zh (by rw [← hwa, ← hgT]; exact Blk.new w2 zero256r _)
 have H3 : Hid (RY w gT C w3) := zh (by
  have hlt := Blk.lt H2.out.1
  have hba : Below w2.heap.size w2 wa := by rw [← hwa]; exact zA
  have hO : Own gT wa w3 := by rw [← hw3]; exact Own.setCells _ _ _
  have h2 := H2.out.2.trans (hba.mono H2.out.2.size)
  refine ⟨by rw [← hw3]; exact HCB.out _ _ HWA.out, hO.blk (Blk.below H2.out.1 hba hlt) (by omega), h2.trans (hO.below (by omega) h2.size), by omega⟩)
 have HTH := zh (there_all HWA.out HCS.out)
 go_wp2_with (first | (refine wpList_store_mid rfl 69 (.tmp 3) (.tmp 4) rfl gT 0 C rfl rfl HTH.out HI3.out HI4.out ?_; rw [hw3]))
 clear hw3 hwa hgT hz2 HTH HWA HCB H2 HTB
 have hR_0 := H3.out.below (Below.refl _ w3).drew
 have hT_0 : TB gT C w3.drew := hR_0.t
 refine wp_region_held_drew (S := (TB gT C)) (by kernel_rfl) ?_ (fun hHeld => ?_)
 ·(try dsimp only)
  first | assumption
 generalize w3.drew = W0 at *
 refine wT 0 ?_ rfl ?_ ?_
 rotate_left
 ·intro wS hSw
  (try dsimp only at hSw)
  go_simp
  (try with_reducible rfl)
 (try simp only [Act.put, zS])
 refine wT 1 ?_ rfl ?_ ?_
 rotate_left
 ·intro wS hSw
  refine exec_load39 (x := .tmp 3) ?_ ?_ hSw HI3.out <;> rfl
 (try simp only [Act.put, zS])
 refine wT 3 ?_ rfl ?_ ?_
 rotate_left
 ·intro wS hSw
  refine exec_load39 (x := .tmp 3) ?_ ?_ hSw HI3.out <;> rfl
 (try simp only [Act.put, zS])
 refine wR [2] ?_
 refine aN rfl fun K hK => ?_
 go_simp
 (refine (HWD.out _ hR_0.o).mono ?_; rintro e v_1 ⟨rfl, hb_1⟩; have hR_1 := hR_0.below hb_1; have hT_1 : TB gT C v_1 := hR_1.t; clear hb_1 hR_0 hT_0; skip)
 (try go_wp2_with fail)
 refine hK.out _ _ ?_ fun hHeld => ?_
 ·(try dsimp only)
  first | assumption
 clear hK K
 (try simp only [Act.put, zS])
 refine wT 4 ?_ rfl ?_ ?_
 rotate_left
 ·intro wS hSw
  refine exec_build41 (parts := #[(0, .tmp 7), (1, .tmp 8)]) (ps := #[(0, .agg E), (1, .agg C)]) ?_ ?_ HBD.out <;> first | rfl | (simp; exact ⟨rfl, rfl⟩)
 (try simp only [Act.put, zS])
 refine wR [5] ?_
 refine aN rfl fun K hK => ?_
 (refine step_storeM rfl 71 (.tmp 2) (.tmp 9) rfl w.heap.size 0 G rfl rfl (there_all hR_1.r HGS.out) HI.out HI1.out ?_; have HN := zh (HGB.out _ hR_1.r); have HO : Hid (Below w.heap.size w (v_1.setCells w.heap.size 0 G.toList)) := zh (hR_1.o.trans ((Own.setCells _ 0 v_1).below (Nat.le_refl _) hR_1.o.size)); have hT_2 : TB gT C (v_1.setCells w.heap.size 0 G.toList) := Own.blk (Own.setCells G.toList 0 v_1) hT_1 (by have := hR_1.n; omega); clear hR_1 hT_1; skip)
 refine hK.out _ _ ?_ fun hHeld => ?_
 ·(try dsimp only)
  first | assumption
 clear hK K
 (try simp only [Act.put, zS])
 refine wpAnyH_done (by kernel_rfl) ?_ _
 clear hT_2
 go_wp2_with fail
 refine bodyPost_ret (v := .agg G) ?_ rfl ⟨rfl, HO.out⟩
 exact results_cell_row Tryz.results72 _ _ w.heap.size 71 G (0, 0) _ rfl HN.out Tryz.underlying71 rfl HI.out
end Go.Proofs.YtncfocjmdecapaaGreatDoor
