/- AES, the document's side: a block, ciphered. -/
import Derived.Test.YtcpcaekkdgogmaaDoorAd4
namespace Go.Proofs.YtcpcaekkdgogmaaDoor
set_option linter.unusedVariables false
set_option linter.unusedSimpArgs false
open Go.RowKit

/-- A cipher's cells: the words byte by byte, the table. -/
def cF (W : Nat → Nat) (j : Nat) : Nat := if j < 240 then numB (W (j / 4)) 4 (j % 4) else subN (j - 240)
theorem cF_word (W : Nat → Nat) {u v : Nat} (hu : u < 60) (hv : v < 4) : cF W (u * 4 + v) = numB (W u) 4 v := by
  unfold cF; rw [if_pos (by omega), show (u * 4 + v) / 4 = u by omega, show (u * 4 + v) % 4 = v by omega]
theorem cF_sub (W : Nat → Nat) (x : Nat) : cF W (240 + x) = subN x := by
  unfold cF; rw [if_neg (by omega), show 240 + x - 240 = x by omega]
/-- A block ahead of each round. -/
def eN (W f : Nat → Nat) : Nat → Nat → Nat
  | 0 => f
  | k + 1 => encK subN W f k
theorem eN_lt {W f : Nat → Nat} (hf : ∀ i, i < 16 → f i < 256) : ∀ r i, i < 16 → eN W f r i < 256
  | 0, i, hi => hf i hi
  | k + 1, i, hi => encK_lt subN_lt hf k i hi
/-- While a block is ciphered. -/
structure ER (w0 : World) (W : Nat → Nat) (f : Nat → Nat) (wr : World) : Prop where
  s : RB 41 496 w0.heap.size (cF W) wr
  b : A16 wr (w0.heap.size + 1) f
  z : A16 wr (w0.heap.size + 1 + 1) (fun _ => 0)
  o : Below w0.heap.size w0 wr
theorem ER.start (W f : Nat → Nat) (w : World) : ER w W f (((w.alloc (.cells (rowC 496 (cF W)).toArray 41)).alloc (.cells (rowC 16 f).toArray 23)).alloc (.cells zero16 23)) := by
  refine ⟨((Blk.new w _ 41).alloc _).alloc _, ?_, ?_, (((Below.refl _ _).alloc (Nat.le_refl _) _).alloc (by simp) _).alloc (by simp; omega) _⟩
  · have := (Blk.new (w.alloc (.cells (rowC 496 (cF W)).toArray 41)) (rowC 16 f).toArray 23).alloc (.cells zero16 23)
    show Blk _ _ (rowC 16 f).toArray _; simpa using this
  · have := Blk.new ((w.alloc (.cells (rowC 496 (cF W)).toArray 41)).alloc (.cells (rowC 16 f).toArray 23)) zero16 23
    show Blk _ _ zero16 _; simpa using this
theorem ER.below {w0 : World} {W f : Nat → Nat} {wr w' : World} (h : ER w0 W f wr) (hb : Below wr.heap.size wr w') : ER w0 W f w' :=
  ⟨Blk.below h.s hb (Blk.lt h.s), Blk.below h.b hb (Blk.lt h.b), Blk.below h.z hb (Blk.lt h.z), h.o.trans (hb.mono h.o.size)⟩
theorem ER.own {w0 : World} {W f : Nat → Nat} {b : Nat} {wr w' : World} (h : ER w0 W f wr) (hO : Own b wr w') (hb : w0.heap.size + 1 + 1 < b) : ER w0 W f w' :=
  ⟨hO.blk h.s (by omega), hO.blk h.b (by omega), hO.blk h.z (by omega), h.o.trans (hO.below (by omega) h.o.size)⟩
theorem ER.drew {w0 : World} {W f : Nat → Nat} {wr : World} (h : ER w0 W f wr) : ER w0 W f wr.drew := h.below (Below.refl _ wr).drew
theorem ER.set {w0 : World} {W f : Nat → Nat} {wr : World} (h : ER w0 W f wr) (k x : Nat) : ER w0 W (upd f k x) (wr.setCell ⟨w0.heap.size + 1, k, none⟩ (.int .u8 (x : Nat))) :=
  ⟨Blk.set_other h.s (by simp) _, h.b.set k x, Blk.set_other h.z (by simp) _, h.o.setCell (by simp) _⟩
theorem ER.congr {w0 : World} {W f g : Nat → Nat} {wr : World} (h : ER w0 W f wr) (he : ∀ i, i < 16 → f i = g i) : ER w0 W g wr := ⟨h.s, h.b.congr he, h.z, h.o⟩
theorem ER.store {w0 : World} {W f : Nat → Nat} {wr : World} (h : ER w0 W f wr) (g : Nat → Nat) {C : Array Value} (hC : (rowC 16 g).toArray = C) : ER w0 W g (wr.setCells (w0.heap.size + 1) 0 C.toList) := by
  subst hC
  have hO : Own (w0.heap.size + 1) wr (wr.setCells (w0.heap.size + 1) 0 (rowC 16 g).toArray.toList) := Own.setCells _ _ _
  exact ⟨hO.blk h.s (by omega), h.b.store g, hO.blk h.z (by omega), h.o.trans (hO.below (by omega) h.o.size)⟩
/-- A block under work beside it. -/
def EV (w0 : World) (W f : Nat → Nat) (vb : Nat) (g : Nat → Nat) (wr : World) : Prop := ER w0 W f wr ∧ A16 wr vb g ∧ w0.heap.size + 1 + 1 < vb
theorem EV.set {w0 : World} {W f g : Nat → Nat} {vb : Nat} {wr : World} (h : EV w0 W f vb g wr) (k x : Nat) : EV w0 W f vb (upd g k x) (wr.setCell ⟨vb, k, none⟩ (.int .u8 (x : Nat))) :=
  ⟨h.1.own ((Own.refl vb wr).set k _) h.2.2, h.2.1.set k x, h.2.2⟩
theorem EV.congr {w0 : World} {W f g g' : Nat → Nat} {vb : Nat} {wr : World} (h : EV w0 W f vb g wr) (he : ∀ i, i < 16 → g i = g' i) : EV w0 W f vb g' wr := ⟨h.1, h.2.1.congr he, h.2.2⟩
theorem upd_step {p q : Nat → Nat} {i x : Nat} (hx : q i = x) : ∀ j, upd (fun j => if j < i then q j else p j) i x j = if j < i + 1 then q j else p j := fun j => by
  unfold upd
  by_cases e : j = i
  · rw [if_pos e, e, if_pos (by omega), hx]
  · rw [if_neg e]
    show (if j < i then q j else p j) = if j < i + 1 then q j else p j
    by_cases h5 : j < i
    · rw [if_pos h5, if_pos (by omega)]
    · rw [if_neg h5, if_neg (by omega)]
set_option maxRecDepth 100000 in
set_option maxHeartbeats 4000000 in
theorem renc_any (W f : Nat → Nat) (w : World) (hf : ∀ i, i < 16 → f i < 256) :
    Calls Tryd.prog 10 #[.agg (rowC 496 (cF W)).toArray, .agg (rowC 16 f).toArray] w fun e w' => e = .returned (.agg (rowC 16 (encK subN W f 14)).toArray) ∧ Below w.heap.size w w' := by
  have hz := zero16a_run
  have HL := Lib.hid (fun r => eN_lt (W := W) hf r)
  have HT := Lib.hid (ER.start W f w)
  obtain ⟨C0, hC0⟩ : ∃ C, (rowC 496 (cF W)).toArray = C := ⟨_, rfl⟩
  obtain ⟨C1, hC1⟩ : ∃ C, (rowC 16 f).toArray = C := ⟨_, rfl⟩
  rw [hC0, hC1] at HT ⊢
  clear hf hC0 hC1
  go_enter Tryd.func10, Tryd.ntmps10
  go_wp2_with fail
  go_loopw [5] (fun v wr => ∃ r : Nat, r ≤ 15 ∧ v = .int .i64 (r : Int) ∧ ER w W (eN W f r) wr) (fun v _ => 15 - (intOf v).toNat)
  case atStart => exact ⟨0, Nat.zero_le _, rfl, HT.out⟩
  case round =>
    clear HT
    obtain ⟨r, hr, rfl, hE⟩ := hrel
    have HE := Lib.hid hE
    clear hE
    by_cases hlt : r < 15
    · have r0 : (0 : Int) ≤ (r : Int) := by omega
      have r1 : (r : Int) ≤ 14 := by omega
      have HR := Lib.hid hlt
      have HGL := Lib.hid (HL.out r)
      have HG1 : Hid (eN W f (r + 1) = encK subN W f r) := Lib.hid rfl
      obtain ⟨g, hg⟩ : ∃ g, eN W f r = g := ⟨_, rfl⟩
      rw [hg] at HE HGL
      have HGE := Lib.hid hg
      clear hg hlt hr
      by_cases h0 : r = 0
      · have HADD : Hid (eN W f (r + 1) = addK W r g) := Lib.hid (by rw [HG1.out, ← HGE.out, h0]; rfl)
        obtain rfl := h0
        rw [show ((0 : Nat) : Int) = 0 from rfl]
        clear hz HG1 HGE
        go_wp2_with fail
        go_loopw [8] (fun v wr => ∃ i : Nat, i ≤ 16 ∧ v = .int .i64 (i : Int) ∧ ER w W (fun j => if j < i then addK W 0 g j else g j) wr) (fun v _ => 16 - (intOf v).toNat)
        case atStart => exact ⟨0, Nat.zero_le _, rfl, HE.out.congr fun i _ => (if_neg (Nat.not_lt_zero _)).symm⟩
        case round =>
          clear HE
          obtain ⟨i, hi, rfl, hX⟩ := hrel
          have HX := Lib.hid hX
          clear hX
          by_cases hli : i < 16
          · have i0 : (0 : Int) ≤ (i : Int) := by omega
            have i1 : (i : Int) < 16 := by omega
            have hr15 := HR.out
            obtain ⟨q, hq⟩ : ∃ q, i / 4 = q := ⟨_, rfl⟩
            skip
            obtain ⟨v, hv⟩ : ∃ q, i % 4 = q := ⟨_, rfl⟩
            have z0 : IntKind.i64.wrap (0 : Int) = 0 := rfl
            have z1 : IntKind.i64.wrap (0 + (q : Int)) = (q : Int) := by rw [Int.zero_add]; exact IntWalk.i64_in _ (by omega)
            have z2 : (0 : Int) + (q : Int) = (q : Int) := Int.zero_add _
            have s2 := tdk (m := 4) rfl hq
            have s3 : IntKind.i64.wrap (q : Int) = (q : Int) := IntWalk.i64_in _ (by omega)
            have s5 := tmk (m := 4) rfl hv
            have hu60 : q < 60 := by omega
            have hv4 : v < 4 := by omega
            obtain ⟨u0, u1⟩ : (0 : Int) ≤ (q : Int) ∧ (q : Int) < 60 := by omega
            obtain ⟨v0, v1⟩ : (0 : Int) ≤ (v : Int) ∧ (v : Int) < 4 := by omega
            have hgi := HGL.out i hli
            have hni := numB_lt (W q) 4 v
            have had : addK W 0 g i = g i ^^^ numB (W q) 4 v := by unfold addK; rw [hq, hv, show 4 * 0 + q = q by omega]
            obtain ⟨x, hx⟩ : ∃ x, g i = x := ⟨_, rfl⟩
            obtain ⟨y, hy⟩ : ∃ x, numB (W q) 4 v = x := ⟨_, rfl⟩
            obtain ⟨z, hz9⟩ : ∃ x, addK W 0 g i = x := ⟨_, rfl⟩
            rw [hx] at hgi had
            rw [hy] at hni had
            rw [hz9] at had
            have xr : bits .xor .u8 (x : Int) (y : Int) = (z : Int) := by rw [had]; exact u8_xor_nat _ _ hgi hni
            have HP := HX.out.drew
            have ca : wr.drew.cell? ⟨w.heap.size + 1, i, none⟩ = some (.int .u8 (x : Nat)) := by
              have := HP.b.cell hli; rw [if_neg (Nat.lt_irrefl _), hx] at this; exact this
            have za : wr.drew.frozen? ⟨w.heap.size + 1, i, none⟩ = false := Blk.free HP.b _
            have cb : wr.drew.cell? ⟨w.heap.size, q * 4 + v, none⟩ = some (.int .u8 (y : Nat)) := HP.s.val (by omega) (by rw [cF_word W hu60 hv4, hy])
            have HN : Hid (ER w W (fun j => if j < i + 1 then addK W 0 g j else g j) (wr.drew.setCell ⟨w.heap.size + 1, i, none⟩ (.int .u8 (z : Nat)))) := Lib.hid ((HP.set i z).congr fun j _ => upd_step hz9 j)
            clear HP hx hy hz9 had hgi hni hq hv hu60 hv4 hi HX hr15
            go_wp2_with fail
            refine wp_region_still_tail 17 (by kernel_rfl) (by kernel_rfl) ?_
            simp only [List.take_succ_cons, List.take_zero, List.drop_succ_cons, List.drop_zero]
            change wpStill _ _ wr.drew (fun a' => wpList _ _ _ _ a' wr.drew) _ _
            generalize wr.drew = W0 at *
            repeat still_step
            refine wpStill_nil ?_
            clear s2 s3 s5 z0 z1 z2
            go_wp2_with fail
            go_roundw
            case rel => exact ⟨i + 1, by omega, by go_num, HN.out⟩
            case measure => simp [intOf] <;> omega
          · obtain rfl : i = 16 := by omega
            have HN : Hid (ER w W (eN W f (0 + 1)) wr) := Lib.hid (by rw [HADD.out]; exact HX.out.congr fun j hj => if_pos hj)
            clear HX hli hi HADD
            have hr15 := HR.out
            go_wp2_with fail
            go_roundw
            case rel => exact ⟨0 + 1, by omega, by go_num, HN.out⟩
            case measure => simp [intOf] <;> omega
      · obtain ⟨vb, hvb⟩ : ∃ q, wr.heap.size = q := ⟨_, rfl⟩
        obtain ⟨wv, hwv⟩ : ∃ q, wr.alloc (.cells zero16 23) = q := ⟨_, rfl⟩
        have HV : Hid (EV w W g vb (fun _ => 0) wv) := Lib.hid (by
          have hlt := Blk.lt HE.out.z
          rw [← hwv, ← hvb]
          exact ⟨HE.out.below ((Below.refl _ _).alloc (Nat.le_refl _) _), Blk.new wr zero16 _, by omega⟩)
        have r2 : (0 : Int) < (r : Int) := by omega
        have HR0 := Lib.hid h0
        clear h0 HE
        go_wp2_with fail
        clear hwv hvb hz
        go_loopw [7] (fun v wr => ∃ i : Nat, i ≤ 16 ∧ v = .int .i64 (i : Int) ∧ EV w W g vb (fun j => if j < i then mvA subN g j else 0) wr) (fun v _ => 16 - (intOf v).toNat)
        case atStart => exact ⟨0, Nat.zero_le _, rfl, HV.out.congr fun i _ => (if_neg (Nat.not_lt_zero _)).symm⟩
        case round =>
          clear HV
          obtain ⟨i, hi, rfl, hX⟩ := hrel
          have HX := Lib.hid hX
          clear hX
          by_cases hli : i < 16
          · have i0 : (0 : Int) ≤ (i : Int) := by omega
            have i1 : (i : Int) < 16 := by omega
            have hmv : mvA subN g i = subN (g ((i + 4 * (i % 4)) % 16)) := by unfold mvA; rw [ref_mv i hli]
            obtain ⟨a, ha⟩ : ∃ k, i % 4 = k := ⟨_, rfl⟩
            obtain ⟨b, hb⟩ : ∃ k, 4 * a = k := ⟨_, rfl⟩
            obtain ⟨c, hc⟩ : ∃ k, i + b = k := ⟨_, rfl⟩
            obtain ⟨d, hd⟩ : ∃ k, c % 16 = k := ⟨_, rfl⟩
            rw [ha, hb, hc, hd] at hmv
            have e1 : (i : Int) % 4 = (a : Int) := by omega
            have e2 : 4 * (a : Int) = (b : Int) := by omega
            have e3 : (i : Int) + (b : Int) = (c : Int) := by omega
            have e4 : (c : Int) % 16 = (d : Int) := by omega
            have a0 : (0 : Int) ≤ (a : Int) := by omega
            have a1 : (a : Int) < 4 := by omega
            have b0 : (0 : Int) ≤ (b : Int) := by omega
            have b1 : (b : Int) < 16 := by omega
            have c0 : (0 : Int) ≤ (c : Int) := by omega
            have c1 : (c : Int) < 32 := by omega
            have d0 : (0 : Int) ≤ (d : Int) := by omega
            have d1 : (d : Int) < 16 := by omega
            have hd16 : d < 16 := by omega
            have hx8 := HGL.out d hd16
            obtain ⟨x, hx⟩ : ∃ x, g d = x := ⟨_, rfl⟩
            obtain ⟨y, hy⟩ : ∃ s, subN x = s := ⟨_, rfl⟩
            rw [hx] at hx8 hmv
            rw [hy] at hmv
            have x0 : (0 : Int) ≤ (x : Int) := by omega
            have x1 : (x : Int) < 256 := by omega
            have ca : wr.cell? ⟨w.heap.size + 1, d, none⟩ = some (.int .u8 (x : Nat)) := by
              have := HX.out.1.b.cell hd16; rw [hx] at this; exact this
            have cb : wr.cell? ⟨w.heap.size, 240 + x, none⟩ = some (.int .u8 (y : Nat)) := HX.out.1.s.val (by omega) (by rw [cF_sub W x, hy])
            have cc : wr.cell? ⟨vb, i, none⟩ = some (.int .u8 0) := by
              have := HX.out.2.1.cell hli; rw [if_neg (Nat.lt_irrefl _)] at this; exact this
            have zc : wr.frozen? ⟨vb, i, none⟩ = false := Blk.free HX.out.2.1 _
            have HN : Hid (EV w W g vb (fun j => if j < i + 1 then mvA subN g j else 0) (wr.setCell ⟨vb, i, none⟩ (.int .u8 (y : Nat)))) := Lib.hid ((HX.out.set i y).congr fun j _ => upd_step (p := fun _ => 0) hmv j)
            clear hmv ha hb hc hd hd16 hx hy hx8 HX hi
            go_wp2_with fail
            go_roundw
            case rel => exact ⟨i + 1, by omega, by go_num, HN.out⟩
            case measure => simp [intOf] <;> omega
          · obtain rfl : i = 16 := by omega
            obtain ⟨M, hM⟩ : ∃ C, (rowC 16 (mvA subN g)).toArray = C := ⟨_, rfl⟩
            obtain ⟨G, hG⟩ : ∃ C, (rowC 16 g).toArray = C := ⟨_, rfl⟩
            have HCM : Hid (∃ f, M = (rowC 16 f).toArray) := Lib.hid ⟨_, hM.symm⟩
            have HCG : Hid (∃ f, G = (rowC 16 f).toArray) := Lib.hid ⟨_, hG.symm⟩
            have HY5 : Hid (Blk wr vb M 23) := Lib.hid (hM ▸ (HX.out.2.1.congr fun j hj => if_pos hj))
            have HB5 : Hid (Blk wr (w.heap.size + 1) G 23) := Lib.hid (hG ▸ HX.out.1.b)
            obtain ⟨w5, hw5⟩ : ∃ q, wr.setCells (w.heap.size + 1) 0 M.toList = q := ⟨_, rfl⟩
            have H5 : Hid (ER w W (mvA subN g) w5) := Lib.hid (by rw [← hw5]; exact HX.out.1.store _ hM)
            have hr15 := HR.out
            clear HX hli hi hG
            by_cases h14 : r < 14
            · have r3 : (r : Int) < 14 := by omega
              obtain ⟨X, hX⟩ : ∃ C, (rowC 16 (mxA (mvA subN g))).toArray = C := ⟨_, rfl⟩
              have HCX : Hid (∃ f, X = (rowC 16 f).toArray) := Lib.hid ⟨_, hX.symm⟩
              have HB6 : Hid (Blk w5 (w.heap.size + 1) M 23) := Lib.hid (hM ▸ H5.out.b)
              have HMX : Hid (∀ w', Calls Tryd.prog 21 #[.agg M] w' fun e w'' => e = .returned (.agg X) ∧ Below w'.heap.size w' w'') := Lib.hid fun w' => by
                rw [← hM, ← hX]; exact rmixed_any _ w' fun i _ => mvA_lt subN_lt i
              have HMM := Lib.hid hM
              have HXX := Lib.hid hX
              have HADD : Hid (eN W f (r + 1) = addK W r (mxA (mvA subN g))) := Lib.hid (by
                obtain ⟨k, rfl⟩ : ∃ k, r = k + 1 := ⟨r - 1, by have := HR0.out; omega⟩
                rw [HG1.out, ← HGE.out]
                show addK W (k + 1) (if k + 1 < 14 then mxA (mvA subN (encK subN W f k)) else mvA subN (encK subN W f k)) = _
                rw [if_pos h14]; rfl)
              have HGM : Hid (∀ i, i < 16 → mxA (mvA subN g) i < 256) := Lib.hid (mxA_lt fun i _ => mvA_lt subN_lt i)
              clear hM hX h14 hr15 HG1 HGE HGL
              go_wp2_with (first
                | (refine wpList_load16a rfl (.tmp 6) rfl vb rfl M HY5.out HCM.out ?_)
                | (refine wpList_store16a rfl (.tmp 3) (.tmp 32) rfl (w.heap.size + 1) rfl M G rfl HB5.out HCM.out HCG.out ?_; rw [hw5])
                | (refine wpList_load16a rfl (.tmp 3) rfl (w.heap.size + 1) rfl M HB6.out HCM.out ?_))
              refine (HMX.out _).mono ?_
              rintro e w6 ⟨rfl, hb6⟩
              have H6 := Lib.hid (H5.out.below hb6)
              have HB7 : Hid (Blk w6 (w.heap.size + 1) M 23) := Lib.hid (HMM.out ▸ H6.out.b)
              obtain ⟨w7, hw7⟩ : ∃ q, w6.setCells (w.heap.size + 1) 0 X.toList = q := ⟨_, rfl⟩
              obtain ⟨h, hh⟩ : ∃ h, mxA (mvA subN g) = h := ⟨_, rfl⟩
              have H7 : Hid (ER w W h w7) := Lib.hid (by rw [← hw7, ← hh]; exact H6.out.store _ HXX.out)
              rw [hh] at HADD HGM
              have HGL := HGM
              clear hb6 H5 H6 hh HMM HXX HB6 HY5 HB5 hw5 HGM HMX
              go_wp2_with (first
                | (refine wpList_store16a rfl (.tmp 3) (.tmp 40) rfl (w.heap.size + 1) rfl X M rfl HB7.out HCX.out HCM.out ?_; rw [hw7]))
              clear HB7 hw7
              go_loopw [8] (fun v wr => ∃ i : Nat, i ≤ 16 ∧ v = .int .i64 (i : Int) ∧ ER w W (fun j => if j < i then addK W r h j else h j) wr) (fun v _ => 16 - (intOf v).toNat)
              case atStart => exact ⟨0, Nat.zero_le _, rfl, H7.out.congr fun i _ => (if_neg (Nat.not_lt_zero _)).symm⟩
              case round =>
                clear H7
                obtain ⟨i, hi, rfl, hX⟩ := hrel
                have HX := Lib.hid hX
                clear hX
                by_cases hli : i < 16
                · have i0 : (0 : Int) ≤ (i : Int) := by omega
                  have i1 : (i : Int) < 16 := by omega
                  have hr15 := HR.out
                  obtain ⟨q, hq⟩ : ∃ q, i / 4 = q := ⟨_, rfl⟩
                  obtain ⟨a, ha⟩ : ∃ q, 4 * r = q := ⟨_, rfl⟩
                  obtain ⟨u, hu⟩ : ∃ k, a + q = k := ⟨_, rfl⟩
                  obtain ⟨v, hv⟩ : ∃ q, i % 4 = q := ⟨_, rfl⟩
                  have s1 := wrn (m := 4) rfl ha (by omega)
                  have s2 := tdk (m := 4) rfl hq
                  have s3 : IntKind.i64.wrap (q : Int) = (q : Int) := IntWalk.i64_in _ (by omega)
                  have s4 := wrs hu (by omega)
                  have s5 := tmk (m := 4) rfl hv
                  have hu60 : u < 60 := by omega
                  have hv4 : v < 4 := by omega
                  obtain ⟨u0, u1⟩ : (0 : Int) ≤ (u : Int) ∧ (u : Int) < 60 := by omega
                  obtain ⟨v0, v1⟩ : (0 : Int) ≤ (v : Int) ∧ (v : Int) < 4 := by omega
                  have hgi := HGL.out i hli
                  have hni := numB_lt (W u) 4 v
                  have had : addK W r h i = h i ^^^ numB (W u) 4 v := by unfold addK; rw [hq, hv, ha, hu]
                  obtain ⟨x, hx⟩ : ∃ x, h i = x := ⟨_, rfl⟩
                  obtain ⟨y, hy⟩ : ∃ x, numB (W u) 4 v = x := ⟨_, rfl⟩
                  obtain ⟨z, hz9⟩ : ∃ x, addK W r h i = x := ⟨_, rfl⟩
                  rw [hx] at hgi had
                  rw [hy] at hni had
                  rw [hz9] at had
                  have xr : bits .xor .u8 (x : Int) (y : Int) = (z : Int) := by rw [had]; exact u8_xor_nat _ _ hgi hni
                  have HP := HX.out.drew
                  have ca : wr.drew.cell? ⟨w.heap.size + 1, i, none⟩ = some (.int .u8 (x : Nat)) := by
                    have := HP.b.cell hli; rw [if_neg (Nat.lt_irrefl _), hx] at this; exact this
                  have za : wr.drew.frozen? ⟨w.heap.size + 1, i, none⟩ = false := Blk.free HP.b _
                  have cb : wr.drew.cell? ⟨w.heap.size, u * 4 + v, none⟩ = some (.int .u8 (y : Nat)) := HP.s.val (by omega) (by rw [cF_word W hu60 hv4, hy])
                  have HN : Hid (ER w W (fun j => if j < i + 1 then addK W r h j else h j) (wr.drew.setCell ⟨w.heap.size + 1, i, none⟩ (.int .u8 (z : Nat)))) := Lib.hid ((HP.set i z).congr fun j _ => upd_step hz9 j)
                  clear HP hx hy hz9 had hgi hni hq hu hv ha hu60 hv4 hi HX hr15
                  go_wp2_with fail
                  refine wp_region_still_tail 17 (by kernel_rfl) (by kernel_rfl) ?_
                  simp only [List.take_succ_cons, List.take_zero, List.drop_succ_cons, List.drop_zero]
                  change wpStill _ _ wr.drew (fun a' => wpList _ _ _ _ a' wr.drew) _ _
                  generalize wr.drew = W0 at *
                  repeat still_step
                  refine wpStill_nil ?_
                  clear s1 s2 s3 s4 s5
                  go_wp2_with fail
                  go_roundw
                  case rel => exact ⟨i + 1, by omega, by go_num, HN.out⟩
                  case measure => simp [intOf] <;> omega
                · obtain rfl : i = 16 := by omega
                  have HN : Hid (ER w W (eN W f (r + 1)) wr) := Lib.hid (by rw [HADD.out]; exact HX.out.congr fun j hj => if_pos hj)
                  clear HX hli hi HADD
                  have hr15 := HR.out
                  go_wp2_with fail
                  go_roundw
                  case rel => exact ⟨r + 1, by omega, by go_num, HN.out⟩
                  case measure => simp [intOf] <;> omega
            · have r3 : ¬ (r : Int) < 14 := by omega
              have HMM := Lib.hid hM
              have HADD : Hid (eN W f (r + 1) = addK W r (mvA subN g)) := Lib.hid (by
                obtain ⟨k, rfl⟩ : ∃ k, r = k + 1 := ⟨r - 1, by have := HR0.out; omega⟩
                rw [HG1.out, ← HGE.out]
                show addK W (k + 1) (if k + 1 < 14 then mxA (mvA subN (encK subN W f k)) else mvA subN (encK subN W f k)) = _
                rw [if_neg h14]; rfl)
              have HGM : Hid (∀ i, i < 16 → mvA subN g i < 256) := Lib.hid (fun i _ => mvA_lt subN_lt i)
              obtain ⟨h, hh⟩ : ∃ h, mvA subN g = h := ⟨_, rfl⟩
              rw [hh] at H5 HADD HGM
              clear hM hr15 h14 HG1 HGE HGL hh
              have HGL := HGM
              clear HGM
              go_wp2_with (first
                | (refine wpList_load16a rfl (.tmp 6) rfl vb rfl M HY5.out HCM.out ?_)
                | (refine wpList_store16a rfl (.tmp 3) (.tmp 32) rfl (w.heap.size + 1) rfl M G rfl HB5.out HCM.out HCG.out ?_; rw [hw5]))
              clear HB5 hw5 HY5
              go_loopw [8] (fun v wr => ∃ i : Nat, i ≤ 16 ∧ v = .int .i64 (i : Int) ∧ ER w W (fun j => if j < i then addK W r h j else h j) wr) (fun v _ => 16 - (intOf v).toNat)
              case atStart => exact ⟨0, Nat.zero_le _, rfl, H5.out.congr fun i _ => (if_neg (Nat.not_lt_zero _)).symm⟩
              case round =>
                clear H5
                obtain ⟨i, hi, rfl, hX⟩ := hrel
                have HX := Lib.hid hX
                clear hX
                by_cases hli : i < 16
                · have i0 : (0 : Int) ≤ (i : Int) := by omega
                  have i1 : (i : Int) < 16 := by omega
                  have hr15 := HR.out
                  obtain ⟨q, hq⟩ : ∃ q, i / 4 = q := ⟨_, rfl⟩
                  obtain ⟨a, ha⟩ : ∃ q, 4 * r = q := ⟨_, rfl⟩
                  obtain ⟨u, hu⟩ : ∃ k, a + q = k := ⟨_, rfl⟩
                  obtain ⟨v, hv⟩ : ∃ q, i % 4 = q := ⟨_, rfl⟩
                  have s1 := wrn (m := 4) rfl ha (by omega)
                  have s2 := tdk (m := 4) rfl hq
                  have s3 : IntKind.i64.wrap (q : Int) = (q : Int) := IntWalk.i64_in _ (by omega)
                  have s4 := wrs hu (by omega)
                  have s5 := tmk (m := 4) rfl hv
                  have hu60 : u < 60 := by omega
                  have hv4 : v < 4 := by omega
                  obtain ⟨u0, u1⟩ : (0 : Int) ≤ (u : Int) ∧ (u : Int) < 60 := by omega
                  obtain ⟨v0, v1⟩ : (0 : Int) ≤ (v : Int) ∧ (v : Int) < 4 := by omega
                  have hgi := HGL.out i hli
                  have hni := numB_lt (W u) 4 v
                  have had : addK W r h i = h i ^^^ numB (W u) 4 v := by unfold addK; rw [hq, hv, ha, hu]
                  obtain ⟨x, hx⟩ : ∃ x, h i = x := ⟨_, rfl⟩
                  obtain ⟨y, hy⟩ : ∃ x, numB (W u) 4 v = x := ⟨_, rfl⟩
                  obtain ⟨z, hz9⟩ : ∃ x, addK W r h i = x := ⟨_, rfl⟩
                  rw [hx] at hgi had
                  rw [hy] at hni had
                  rw [hz9] at had
                  have xr : bits .xor .u8 (x : Int) (y : Int) = (z : Int) := by rw [had]; exact u8_xor_nat _ _ hgi hni
                  have HP := HX.out.drew
                  have ca : wr.drew.cell? ⟨w.heap.size + 1, i, none⟩ = some (.int .u8 (x : Nat)) := by
                    have := HP.b.cell hli; rw [if_neg (Nat.lt_irrefl _), hx] at this; exact this
                  have za : wr.drew.frozen? ⟨w.heap.size + 1, i, none⟩ = false := Blk.free HP.b _
                  have cb : wr.drew.cell? ⟨w.heap.size, u * 4 + v, none⟩ = some (.int .u8 (y : Nat)) := HP.s.val (by omega) (by rw [cF_word W hu60 hv4, hy])
                  have HN : Hid (ER w W (fun j => if j < i + 1 then addK W r h j else h j) (wr.drew.setCell ⟨w.heap.size + 1, i, none⟩ (.int .u8 (z : Nat)))) := Lib.hid ((HP.set i z).congr fun j _ => upd_step hz9 j)
                  clear HP hx hy hz9 had hgi hni hq hu hv ha hu60 hv4 hi HX hr15
                  go_wp2_with fail
                  refine wp_region_still_tail 17 (by kernel_rfl) (by kernel_rfl) ?_
                  simp only [List.take_succ_cons, List.take_zero, List.drop_succ_cons, List.drop_zero]
                  change wpStill _ _ wr.drew (fun a' => wpList _ _ _ _ a' wr.drew) _ _
                  generalize wr.drew = W0 at *
                  repeat still_step
                  refine wpStill_nil ?_
                  clear s1 s2 s3 s4 s5
                  go_wp2_with fail
                  go_roundw
                  case rel => exact ⟨i + 1, by omega, by go_num, HN.out⟩
                  case measure => simp [intOf] <;> omega
                · obtain rfl : i = 16 := by omega
                  have HN : Hid (ER w W (eN W f (r + 1)) wr) := Lib.hid (by rw [HADD.out]; exact HX.out.congr fun j hj => if_pos hj)
                  clear HX hli hi HADD
                  have hr15 := HR.out
                  go_wp2_with fail
                  go_roundw
                  case rel => exact ⟨r + 1, by omega, by go_num, HN.out⟩
                  case measure => simp [intOf] <;> omega
    · obtain rfl : r = 15 := by omega
      obtain ⟨E, hE⟩ : ∃ C, (rowC 16 (encK subN W f 14)).toArray = C := ⟨_, rfl⟩
      have HCE : Hid (∃ f, E = (rowC 16 f).toArray) := Lib.hid ⟨_, hE.symm⟩
      have HC0 : Hid (∃ f, zero16 = (rowC 16 f).toArray) := Lib.hid ⟨_, rfl⟩
      have HX5 : Hid (Blk wr (w.heap.size + 1) E 23) := Lib.hid (hE ▸ HE.out.b)
      have HR5 : Hid (Blk wr (w.heap.size + 1 + 1) zero16 23) := Lib.hid HE.out.z
      have HN : Hid (Blk (wr.setCells (w.heap.size + 1 + 1) 0 E.toList) (w.heap.size + 1 + 1) E 23) := Lib.hid (Blk.store16a HR5.out HCE.out HC0.out)
      have HO5 : Hid (Below w.heap.size w (wr.setCells (w.heap.size + 1 + 1) 0 E.toList)) := Lib.hid (Below.set16 (g := w.heap.size + 1 + 1) HE.out.o (by omega) HE.out.o.size _)
      have HEE := Lib.hid hE
      clear HE hE hlt hr hz
      go_wp2_with (first
        | (refine wpList_load16a rfl (.tmp 3) rfl (w.heap.size + 1) rfl E HX5.out HCE.out ?_)
        | (refine wpList_store16a rfl (.tmp 4) (.tmp 62) rfl (w.heap.size + 1 + 1) rfl E zero16 rfl HR5.out HCE.out HC0.out ?_))
      refine bodyPost_ret (v := .agg E) ?_ rfl ⟨by rw [HEE.out], HO5.out⟩
      exact res16a Tryd.results10 _ _ (w.heap.size + 1 + 1) E rfl HN.out HCE.out
end Go.Proofs.YtcpcaekkdgogmaaDoor
