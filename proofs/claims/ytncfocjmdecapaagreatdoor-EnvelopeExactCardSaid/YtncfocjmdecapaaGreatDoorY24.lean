/- Part of the proof: what stands here serves the walks of the functions that the statement calls. -/
import Derived.Test.YtncfocjmdecapaaGreatDoorY21
import Derived.Test.YtncfocjmdecapaaGreatDoorY23
namespace Go.Proofs.YtncfocjmdecapaaGreatDoor
set_option linter.unusedVariables false
set_option linter.unusedSimpArgs false
open Go.RowKit
set_option maxRecDepth 100000
set_option maxHeartbeats 4000000
def kyL (W : Nat → Nat) : List Value := rowC 496 (cF W) ++ rowC 16 (h0F W)
def kyC (W : Nat → Nat) : Array Value := (kyL W).toArray
theorem kyC_size (W : Nat → Nat) : (kyC W).size = 512 := by unfold kyC kyL; simp [rowC_len]
theorem info_ky : (Tryz.prog.info? 74).map (·.size) = some 512 := by kernel_rfl
theorem info_ci : (Tryz.prog.info? 71).map (·.size) = some 496 := by kernel_rfl
theorem ky_words {w : World} {b : Nat} {W : Nat → Nat} (h : Blk w b (kyC W) 74) : w.rangeAt b 0 (rowC 496 (cF W)) := fun j u hu => by
 have hj : j < 496 := by have := (List.getElem?_eq_some_iff.1 hu).1; rw [rowC_len] at this; exact this
 rw [Nat.zero_add, Blk.cell h j]
 unfold kyC kyL
 rw [List.getElem?_toArray, List.getElem?_append_left (by rw [rowC_len]; exact hj)]; exact hu
theorem ky_h {w : World} {b : Nat} {W : Nat → Nat} (h : Blk w b (kyC W) 74) : w.rangeAt b 496 (rowC 16 (h0F W)) := fun j u hu => by
 have hj : j < 16 := by have := (List.getElem?_eq_some_iff.1 hu).1; rw [rowC_len] at this; exact this
 rw [Blk.cell h]
 unfold kyC kyL
 rw [List.getElem?_toArray, List.getElem?_append_right (by rw [rowC_len]; omega), rowC_len, Nat.add_sub_cancel_left]; exact hu
def cbF (nn : Nat → Nat) (c p : Nat) : Nat → Nat := fun i => if i < 12 then nn i else if p < i then numB c 4 (i - 12) else 0
def CB (w : World) (W : Nat → Nat) (bk br bb : Nat) (f : Nat → Nat) (wr : World) : Prop := Below w.heap.size w wr ∧ Blk wr bk (kyC W) 74 ∧ Blk wr br zero16 72 ∧ A16 wr bb f
theorem CB.set {w wr : World} {W f : Nat → Nat} {bk br bb : Nat} (h : CB w W bk br bb f wr) (hb : w.heap.size ≤ bk ∧ bk < br ∧ br < bb) (k x : Nat) : CB w W bk br bb (upd f k x) (wr.setCell ⟨bb, k, none⟩ (.int .u8 (x : Nat))) := by
 have hO : Own bb wr (wr.setCell ⟨bb, k, none⟩ (.int .u8 (x : Nat))) := (Own.refl _ _).set _ _
 exact ⟨h.1.trans (hO.below (by omega) h.1.size), hO.blk h.2.1 (by omega), hO.blk h.2.2.1 (by omega), h.2.2.2.set k x⟩
theorem CB.congr {w wr : World} {W f g : Nat → Nat} {bk br bb : Nat} (h : CB w W bk br bb f wr) (he : ∀ i, i < 16 → f i = g i) : CB w W bk br bb g wr := ⟨h.1, h.2.1, h.2.2.1, h.2.2.2.congr he⟩
theorem rcounter_any (W nn : Nat → Nat) (on : Option Addr) (cn c : Nat) (w : World) (hn : Bytes w on 12 nn) (hc : c < 4294967296) :
  Calls Tryz.prog 69 #[.agg (kyC W), .slice on 12 cn, .int .i64 (c : Int)] w fun e w' => e = .returned (.agg (rowC 16 (cW W nn c)).toArray) ∧ Below w.heap.size w w' := by
 obtain ⟨bk, hbk⟩ := zX w.heap.size
 obtain ⟨w1, hw1⟩ := zX (w.alloc (.cells (kyC W) 74))
 obtain ⟨br, hbr⟩ := zX (bk + 1)
 obtain ⟨w2, hw2⟩ := zX (w1.alloc (.cells zero16 72))
 obtain ⟨bb, hbb⟩ := zX (br + 1)
 obtain ⟨w3, hw3⟩ := zX (w2.alloc (.cells zero16 72))
 have hz := zero16a_run
 have hs1 : w1.heap.size = br := by rw [← hw1, ← hbr, ← hbk]; simp
 have hs2 : w2.heap.size = bb := by rw [← hw2, ← hbb, ← hs1]; simp
 have b1 : Below w.heap.size w w1 := by rw [← hw1]; exact zA
 have b2 : Below w1.heap.size w1 w2 := by rw [← hw2]; exact zA
 have b3 : Below w2.heap.size w2 w3 := by rw [← hw3]; exact zA
 have b12 := b1.trans (b2.mono b1.size)
 have b13 := b12.trans (b3.mono b12.size)
 have k1 : Blk w1 bk (kyC W) 74 := by rw [← hw1, ← hbk]; exact Blk.new _ _ _
 have k2 : Blk w2 br zero16 72 := by rw [← hw2, ← hs1]; exact Blk.new _ _ _
 have k3 : Blk w3 bb zero16 72 := by rw [← hw3, ← hs2]; exact Blk.new _ _ _
 have HLT := zh (show w.heap.size ≤ bk ∧ bk < br ∧ br < bb from ⟨by omega, by omega, by omega⟩)
 have H0 := zh (show CB w W bk br bb (fun _ => 0) w3 from ⟨b13, Blk.below (Blk.below k1 b2 (Blk.lt k1)) b3 (Blk.lt (Blk.below k1 b2 (Blk.lt k1))), Blk.below k2 b3 (Blk.lt k2), k3⟩)
 have HN := zh (hn.later b13)
 have HN0 := zh hn
 have HC := zh hc
 have HBK := zh hbk
 clear b1 b2 b3 b12 b13 k1 k2 k3 hn hc
 go_enter Tryz.func69, Tryz.ntmps69
 go_wp2_with fail
 go_loopw [8] (fun x wr => ∃ k : Nat, k ≤ 12 ∧ x = .int .i64 (k : Int) ∧ CB w W bk br bb (fun i => if i < k then nn i else 0) wr) (fun x _ => 12 - (intOf x).toNat)
 case atStart => exact ⟨0, Nat.zero_le _, rfl, H0.out.congr fun i _ => (if_neg (Nat.not_lt_zero _)).symm⟩
 case round =>
  obtain ⟨k, hk, rfl, hC⟩ := hrel
  have HK := zh hC
  by_cases hlt : k < 12
  ·as_aux_lemma =>
   have k1 : (k : Int) < 12 := by omega
   have k0 : (0 : Int) ≤ (k : Int) := by omega
   have k2 : (k : Int) < 16 := by omega
   have k4 : IntKind.i64.wrap ((k : Int) + 1) = ((k + 1 : Nat) : Int) := by rw [IntWalk.i64_in _ (by omega)]; omega
   obtain ⟨h8, b0, o0, rfl, hc0⟩ := HN0.out k hlt
   have d0 : wr.cell? ⟨b0, o0 + k, none⟩ = some (.int .u8 (nn k : Nat)) := cell_below HK.out.1 hc0
   have d1 : wr.cell? ⟨bb, k, none⟩ = some (.int .u8 ((if k < k then nn k else 0 : Nat) : Int)) := A16.cell HK.out.2.2.2 (by omega)
   have d2 := Blk.free HK.out.2.2.2 k
   have HN1 := zh ((HK.out.set HLT.out k (nn k)).congr (g := fun i => if i < k + 1 then nn i else 0) fun i _ => by
    unfold upd
    by_cases e : i = k
    ·rw [if_pos e, e, if_pos (Nat.lt_succ_self _)]
    ·rw [if_neg e]
     show (if i < k then nn i else 0) = _
     by_cases e2 : i < k
     ·rw [if_pos e2, if_pos (by omega)]
     ·rw [if_neg e2, if_neg (by omega)])
   have HKK := zh (show k + 1 ≤ 12 ∧ k < 12 from ⟨hlt, hlt⟩)
   clear hC hc0 hlt hk h8
   go_wp2_with fail
   go_roundw
   case rel => exact ⟨k + 1, HKK.out.1, by first | rfl | go_num, HN1.out⟩
   case measure => have := HKK.out; simp [intOf]; omega
  ·obtain rfl : k = 12 := by omega
   have HS2 := zh (HK.out.congr (g := cbF nn c 15) fun i hi => by
    unfold cbF
    by_cases e : i < 12
    ·rw [if_pos e, if_pos e]
    ·rw [if_neg e, if_neg e, if_neg (by omega)])
   clear hC hlt hk HK
   go_wp2_with fail
   go_loopw [2, 9] (fun y x wr => ∃ p q : Nat, 11 ≤ p ∧ p ≤ 15 ∧ x = .int .i64 (p : Int) ∧ y = .int .i64 (q : Int) ∧ q = c / 256 ^ (15 - p) ∧ CB w W bk br bb (cbF nn c p) wr) (fun _ x _ => (intOf x).toNat)
   case atStart => exact ⟨15, c, by decide, Nat.le_refl _, rfl, rfl, by simp, HS2.out⟩
   case round =>
    obtain ⟨p, q, hp1, hp2, rfl, rfl, hq, hC⟩ := hrel
    have HK := zh hC
    by_cases hlt : 12 ≤ p
    ·as_aux_lemma =>
     have k1 : (12 : Int) ≤ (p : Int) := by omega
     have k0 : (0 : Int) ≤ (p : Int) := by omega
     have k2 : (p : Int) < 16 := by omega
     have k4 : IntKind.i64.wrap ((p : Int) - 1) = ((p - 1 : Nat) : Int) := by rw [IntWalk.i64_in _ (by omega)]; omega
     have k5 : (p : Int) - 1 = ((p - 1 : Nat) : Int) := by omega
     obtain ⟨r, hr⟩ := zX (q % 256)
     obtain ⟨u, hu⟩ := zX (q / 256)
     have hqc : q < 4294967296 := by
      have := HC.out
      have h9 := Nat.div_le_self c (256 ^ (15 - p))
      omega
     have m1 : (q : Int).tmod 256 = (r : Int) := tmk rfl hr
     have m2 : (q : Int) % 256 = (r : Int) := by omega
     have m3 : (q : Int).tdiv 256 = (u : Int) := tdk rfl hu
     have m4 : (q : Int) / 256 = (u : Int) := by omega
     have m5 : IntKind.u8.wrap (r : Int) = (r : Int) := by
      have : (r : Int) < 256 := by omega
      simp [IntKind.wrap, IntKind.bits, IntKind.signed]; omega
     have m6 : IntKind.i64.wrap (u : Int) = (u : Int) := IntWalk.i64_in _ (by omega)
     have m7 : IntKind.i64.wrap (r : Int) = (r : Int) := IntWalk.i64_in _ (by omega)
     have d1 : wr.cell? ⟨bb, p, none⟩ = some (.int .u8 (cbF nn c p p : Nat)) := A16.cell HK.out.2.2.2 (by omega)
     have d2 := Blk.free HK.out.2.2.2 p
     have hrn : r = numB c 4 (p - 12) := by
      rw [← hr, hq]; unfold numB
      rw [show 4 - 1 - (p - 12) = 15 - p by omega]
     have hun : u = c / 256 ^ (15 - (p - 1)) := by
      rw [← hu, hq, show 15 - (p - 1) = 15 - p + 1 by omega, Nat.pow_succ, Nat.div_div_eq_div_mul]
     have HN1 := zh ((HK.out.set HLT.out p r).congr (g := cbF nn c (p - 1)) fun i _ => by
      unfold upd cbF
      by_cases e : i = p
      ·rw [if_pos e, e, if_neg (by omega), if_pos (by omega), hrn]
      ·rw [if_neg e]
       by_cases e2 : i < 12
       ·rw [if_pos e2, if_pos e2]
       ·rw [if_neg e2, if_neg e2]
        by_cases e3 : p < i
        ·rw [if_pos e3, if_pos (by omega)]
        ·rw [if_neg e3, if_neg (by omega)])
     have HKK := zh (show 11 ≤ p - 1 ∧ p - 1 ≤ 15 ∧ u = c / 256 ^ (15 - (p - 1)) ∧ 12 ≤ p from ⟨by omega, by omega, hun, hlt⟩)
     clear hC hlt hp1 hp2 hq hr hu hrn hun hqc
     go_wp2_with fail
     go_roundw
     case rel => exact ⟨p - 1, u, HKK.out.1, HKK.out.2.1, by first | rfl | go_num, by first | rfl | go_num, HKK.out.2.2.1, HN1.out⟩
     case measure => have := HKK.out; simp [intOf]; omega
    ·obtain rfl : p = 11 := by omega
     have HE := zh (show CB w W bk br bb (ctrB nn c) wr from HK.out.congr fun i hi => by
      unfold cbF ctrB
      by_cases e : i < 12
      ·rw [if_pos e, if_pos e]
      ·rw [if_neg e, if_neg e, if_pos (by omega)])
     have HR := zh (ky_words HE.out.2.1)
     clear hC hlt hp1 hp2 hq HK
     go_wp2_with (first
      | (refine wpList_load_mid rfl 71 (.tmp 31) rfl bk 0 rfl (rowC 496 (cF W)) _ HR.out Tryz.underlying71 rfl (by rw [rowC_len]; exact info_ci) ?_)
      | (refine wpList_load16a rfl (.tmp 7) rfl bb rfl (rowC 16 (ctrB nn c)).toArray HE.out.2.2.2 ⟨_, rfl⟩ ?_))
     clear HR
     refine (renc_any W (ctrB nn c) wr (ctrB_lt fun i hi => (HN0.out i hi).1)).mono ?_
     rintro e w5 ⟨rfl, hb⟩
     have HB5 := zh (HE.out.1.trans (hb.mono HE.out.1.size))
     have HR5 := zh (Blk.below HE.out.2.2.1 hb (Blk.lt HE.out.2.2.1))
     clear hb
     go_wp2_with (first
      | (refine wpList_store16a rfl (.tmp 6) (.tmp 34) rfl br rfl (rowC 16 (encK subN W (ctrB nn c) 14)).toArray zero16 rfl HR5.out ⟨_, rfl⟩ ⟨_, rfl⟩ ?_))
     have h9 : Blk (w5.setCells br 0 (rowC 16 (encK subN W (ctrB nn c) 14)).toArray.toList) br (rowC 16 (encK subN W (ctrB nn c) 14)).toArray 72 := Blk.store16a HR5.out ⟨_, rfl⟩ ⟨_, rfl⟩
     have hO : Own br w5 (w5.setCells br 0 (rowC 16 (encK subN W (ctrB nn c) 14)).toArray.toList) := Own.setCells _ _ _
     have hb2 := HB5.out.trans (hO.below (by have := HLT.out; omega) HB5.out.size)
     refine bodyPost_ret (res16a rfl _ _ br _ rfl h9 ⟨_, rfl⟩) rfl ⟨rfl, ?_⟩
     first | exact hb2 | (rw [hbk] at hb2; exact hb2)
set_option maxHeartbeats 200000
theorem bk_run (W : Nat → Nat) (w : World) : (Instr.build 74 #[(0, .agg (rowC 496 (cF W)).toArray), (1, .agg (rowC 16 (h0F W)).toArray)]).run Tryz.prog w = .ok (.agg (kyC W)) w := by
 have h := run_build (P := Tryz.prog) w 74 #[(0, .agg (rowC 496 (cF W)).toArray), (1, .agg (rowC 16 (h0F W)).toArray)] (kyC W) (by kernel_rfl)
 exact h
theorem exec_loadC {o : Oper} {a : Act} {w : World} {ty : TypeId} {x : Operand} {b f : Nat} {v : Value} (ho : o.op = .load ty x) (hx : a.eval x = .pointer (some ⟨b, f, none⟩)) (h : (loadVar ty ⟨b, f, none⟩).run Tryz.prog w = .ok v w) : (execOp a.eval o).run Tryz.prog w = .ok (.value v) w := by
 unfold execOp
 simp only [ho, hx, Instr.loadAt, Instr.sureAddr, Sem.run_bind, Sem.run_pure, Result.andThen_ok, h]
theorem Blk.range {w : World} {b : Nat} {C : List Value} {t : TypeId} (h : Blk w b C.toArray t) : w.rangeAt b 0 C := fun j v hv => by
 rw [Nat.zero_add, Blk.cell h j]; simpa using hv
theorem Blk.whole {w : World} {b : Nat} {C D : Array Value} {t : TypeId} (h : Blk w b C t) (hs : D.size = C.size) : Blk (w.setCells b 0 D.toList) b D t := by
 have := Blk.setCells h D.toList (by simpa using hs)
 simpa using this
theorem Blk.thereAll {w : World} {b : Nat} {C : Array Value} {t : TypeId} (h : Blk w b C t) (n : Nat) (hn : n ≤ C.size) : w.there b 0 n := Blk.there h (by simpa using hn)
def zKy : Array Value := (rowC 512 (fun _ => 0)).toArray
def zCi : Array Value := (rowC 496 (fun _ => 0)).toArray
theorem zKy_size : zKy.size = 512 := by unfold zKy; simp [rowC_len]
theorem zCi_size : zCi.size = 496 := by unfold zCi; simp [rowC_len]
theorem zKy_run (w : World) : (zeroValue 74).run Tryz.prog w = .ok (.agg zKy) w := by kernel_rfl
theorem zCi_run (w : World) : (zeroValue 71).run Tryz.prog w = .ok (.agg zCi) w := by kernel_rfl
theorem ky_one (W : Nat → Nat) : (kyC W).all (·.oneCell') = true := by
 unfold kyC kyL
 exact all_oneCell_toArray fun v hv => by
  rcases List.mem_append.1 hv with h | h
  ·exact rowC_one _ _ v h
  ·exact rowC_one _ _ v h
theorem exec_buildKG {o : Oper} {a : Act} {w : World} {C : Array Value} {parts : Array (Nat × Operand)} {ps : Array (Nat × Value)} (ho : o.op = .build 74 parts) (hp : (parts.map fun (i, x) => (i, a.eval x)) = ps) (h : ∀ w, (Instr.build 74 ps).run Tryz.prog w = .ok (.agg C) w) : (execOp a.eval o).run Tryz.prog w = .ok (.value (.agg C)) w := by
 unfold execOp
 simp only [ho, hp, h, Sem.run_bind, Result.andThen_ok]
 rfl
set_option maxHeartbeats 8000000
def TgP (w : World) (T3 : Array Value) (e : Ending) (w' : World) : Prop := ∃ b, e = .returned (.slice (some ⟨b, 0, none⟩) 16 16) ∧ Blk w' b T3 72 ∧ Below w.heap.size w w'
theorem rtag_any (W nn c a : Nat → Nat) (cn an : Nat) (on oc oa : Option Addr) (capn capc capa : Nat) (w : World) (hn : Bytes w on 12 nn) (hc : Bytes w oc cn c) (ha : Bytes w oa an a) (h5 : cn < 1000000) (h6 : an < 1000000) :
  Calls Tryz.prog 49 #[.agg (kyC W), .slice on 12 capn, .slice oc cn capc, .slice oa an capa] w (TgP w (rowC 16 (tgF W nn a an c cn)).toArray) := by
 obtain ⟨bk, hbk⟩ := zX w.heap.size
 obtain ⟨w1, hw1⟩ := zX (w.alloc (.cells (kyC W) 74))
 have hb1 : Below w.heap.size w w1 := by rw [← hw1]; exact zA
 have hk1 : Blk w1 bk (kyC W) 74 := by rw [← hw1, ← hbk]; exact Blk.new _ _ _
 have hbd := (Below.refl w1.heap.size w1).drew
 have hb01 := hb1.trans (hbd.mono hb1.size)
 have hnl : ∀ i, i < 12 → nn i < 256 := fun i hi => (hn i hi).1
 obtain ⟨KC, hKC⟩ := zX (kyC W)
 obtain ⟨EH, hEH⟩ := zX ((rowC 16 (h0F W)).toArray)
 obtain ⟨T1, hT1⟩ := zX ((rowC 16 (hashF (h0F W) a an c cn)).toArray)
 obtain ⟨T2, hT2⟩ := zX ((rowC 16 (cW W nn 1)).toArray)
 obtain ⟨T3, hT3⟩ := zX ((rowC 16 (tgF W nn a an c cn)).toArray)
 have HHA : Hid (∀ A, Below w1.drew.heap.size w1.drew A → Calls Tryz.prog 71 #[.agg EH, .slice oa an capa, .slice oc cn capc] A fun e w' => e = .returned (.agg T1) ∧ Below A.heap.size A w') := zh fun A hA => by
  rw [← hEH, ← hT1]
  exact rhash_any (h0F W) a c oa oc an cn capa capc A (h0F_lt W) ((ha.later hb01).later hA) ((hc.later hb01).later hA) h6 h5
 have HCO : Hid (∀ A, Below w1.drew.heap.size w1.drew A → Calls Tryz.prog 69 #[.agg KC, .slice on 12 capn, .int .i64 1] A fun e w' => e = .returned (.agg T2) ∧ Below A.heap.size A w') := zh fun A hA => by
  rw [← hKC, ← hT2]
  exact rcounter_any W nn on capn 1 A ((hn.later hb01).later hA) (by decide)
 have HAD : Hid (∀ A, Calls Tryz.prog 70 #[.agg T1, .agg T2] A fun e w' => e = .returned (.agg T3) ∧ Below A.heap.size A w') := zh fun A => by
  rw [← hT1, ← hT2, ← hT3]
  exact radd_any _ _ A (fun i _ => mulF_lt _ _ _) (cW_lt hnl)
 have HT3 : Hid (∃ f, T3 = (rowC 16 f).toArray) := zh ⟨_, hT3.symm⟩
 have HLH : Hid (∀ A, Below w1.drew.heap.size w1.drew A → (loadVar 72 ⟨bk, 496, none⟩).run Tryz.prog A = .ok (.agg EH) A) := zh fun A hA => by
  have h9 := run_loadVar_mid A bk 496 72 (rowC 16 (h0F W)) _ (ky_h (Blk.below (Blk.below hk1 hbd (Blk.lt hk1)) hA (Blk.lt (Blk.below hk1 hbd (Blk.lt hk1))))) Tryz.underlying72 rfl (by rw [rowC_len]; exact size16a)
  rw [hEH] at h9; exact h9
 have HLK : Hid (∀ A, Below w1.drew.heap.size w1.drew A → (loadVar 74 ⟨bk, 0, none⟩).run Tryz.prog A = .ok (.agg KC) A) := zh fun A hA => by
  have h8 := Blk.below (Blk.below hk1 hbd (Blk.lt hk1)) hA (Blk.lt (Blk.below hk1 hbd (Blk.lt hk1)))
  have h9 := run_loadVar_mid A bk 0 74 (kyL W) _ (Blk.range (C := kyL W) h8) Tryz.underlying74 rfl (by rw [show (kyL W).length = 512 by unfold kyL; simp [rowC_len]]; exact info_ky)
  have e : (kyL W).toArray = KC := hKC
  rw [e] at h9; exact h9
 have HW1 := zh hb01
 have hz := zero16a_run
 rw [hKC, hT3]
 rw [hKC] at hw1
 have hL1 : w1.drew.heap.size = w1.drew.heap.size := rfl
 clear hn hc ha h5 h6 hnl hb1 hk1 hbd hb01 hKC hEH hT1 hT2 hT3 hL1
 unfold TgP
 go_enter Tryz.func49, Tryz.ntmps49
 go_wp2_with fail
 go_upto_region 1 with fail
 refine wp_region_held_drew (S := (Below w1.drew.heap.size w1.drew)) (by kernel_rfl) ?_ (fun hHeld => ?_)
 ·(try dsimp only)
  (first | exact Below.refl _ _ | assumption)
 generalize w1.drew = WR at *
 refine wT 0 ?_ rfl ?_ ?_
 rotate_left
 ·intro wS hSw
  (try dsimp only at hSw)
  go_simp
  (try with_reducible rfl)
 (try simp only [Act.put, zS])
 refine wT 1 ?_ rfl ?_ ?_
 rotate_left
 ·intro wS hSw
  (have c9 := HLH.out wS hSw; refine exec_loadC (ty := 72) (v := .agg EH) (b := bk) (f := 496) (x := .tmp 10) ?_ ?_ c9 <;> rfl)
 (try simp only [Act.put, zS])
 refine wT 2 ?_ rfl ?_ ?_
 rotate_left
 ·intro wS hSw
  (try dsimp only at hSw)
  go_simp
  (try with_reducible rfl)
 (try simp only [Act.put, zS])
 refine wT 3 ?_ rfl ?_ ?_
 rotate_left
 ·intro wS hSw
  (try dsimp only at hSw)
  go_simp
  (try with_reducible rfl)
 (try simp only [Act.put, zS])
 refine wT 5 ?_ rfl ?_ ?_
 rotate_left
 ·intro wS hSw
  (have c9 := HLK.out wS hSw; refine exec_loadC (ty := 74) (v := .agg KC) (b := bk) (f := 0) (x := .tmp 4) ?_ ?_ c9 <;> rfl)
 (try simp only [Act.put, zS])
 refine wT 6 ?_ rfl ?_ ?_
 rotate_left
 ·intro wS hSw
  (try dsimp only at hSw)
  go_simp
  (try with_reducible rfl)
 (try simp only [Act.put, zS])
 refine wR [4, 9] ?_
 refine aC rfl (fun K hK => ?_) ?_
 ·skip
  go_simp
  (refine (HHA.out WR (Below.refl WR.heap.size WR)).mono ?_; rintro e V1 ⟨rfl, hq⟩; have hb1 := Below.trans (Below.refl WR.heap.size WR) (hq.mono (Below.size (Below.refl WR.heap.size WR))); clear hq; skip)
  (try go_wp2_with fail)
  refine hK.out _ _ ?_ fun hHeld => ?_
  ·(try dsimp only)
   (first | exact Below.refl _ _ | assumption)
  clear hK K
  (try simp only [Act.put, zS])
  refine wR [7, 9] ?_
  refine aC rfl (fun K hK => ?_) ?_
  ·skip
   go_simp
   (refine (HCO.out V1 hb1).mono ?_; rintro e V2 ⟨rfl, hq⟩; have hb2 := Below.trans hb1 (hq.mono (Below.size hb1)); clear hq; skip)
   (try go_wp2_with fail)
   refine hK.out _ _ ?_ fun hHeld => ?_
   ·(try dsimp only)
    (first | exact Below.refl _ _ | assumption)
   clear hK K
   (try simp only [Act.put, zS])
   refine wR [8, 9] ?_
   refine aC rfl (fun K hK => ?_) ?_
   ·skip
    go_simp
    (refine (HAD.out V2).mono ?_; rintro e V3 ⟨rfl, hq⟩; have hb3 := Below.trans hb2 (hq.mono (Below.size hb2)); clear hq; skip)
    (try go_wp2_with fail)
    refine hK.out _ _ ?_ fun hHeld => ?_
    ·(try dsimp only)
     (first | exact Below.refl _ _ | assumption)
    clear hK K
    (try simp only [Act.put, zS])
    refine wR [9] ?_
    refine aN rfl fun K hK => ?_
    go_simp
    (obtain ⟨V4, hw⟩ := zX (V3.alloc (.cells zero16 72)); rw [hw]; have hq : Below V3.heap.size V3 V4 := (by rw [← hw]; exact zA); have hz4 : Blk V4 V3.heap.size zero16 72 := (by rw [← hw]; exact Blk.new _ _ _); have hb4 := Below.trans hb3 (hq.mono (Below.size hb3)); have HGE := zh (Below.size hb3); clear hq hw; skip)
    (try go_wp2_with fail)
    refine hK.out _ _ ?_ fun hHeld => ?_
    ·(try dsimp only)
     (first | exact Below.refl _ _ | assumption)
    clear hK K
    (try simp only [Act.put, zS])
    refine wR [10] ?_
    refine aN rfl fun K hK => ?_
    (refine step_store16a rfl (.tmp 9) (.tmp 18) rfl (V3.heap.size) rfl T3 zero16 rfl hz4 HT3.out ⟨_, rfl⟩ ?_; obtain ⟨V5, hw⟩ := zX (V4.setCells (V3.heap.size) 0 T3.toList); rw [hw]; have hO : Own (V3.heap.size) V4 V5 := (by rw [← hw]; exact Own.setCells _ _ _); have HF : Hid (Blk V5 (V3.heap.size) T3 72) := zh (by rw [← hw]; exact Blk.store16a hz4 HT3.out ⟨_, rfl⟩); have hb5 := Below.trans hb4 (hO.below HGE.out (Below.size hb4)); have HB9 := zh hb5; clear hO hw; skip)
    refine hK.out _ _ ?_ fun hHeld => ?_
    ·(try dsimp only)
     (first | exact Below.refl _ _ | assumption)
    clear hK K
    (try simp only [Act.put, zS])
    refine wpAnyH_done (by kernel_rfl) ?_ _
    clear HLH HLK
    go_wp2_with fail
    go_ret
    exact ⟨_, rfl, HF.out, HW1.out.trans (HB9.out.mono HW1.out.size)⟩
   refine aN rfl fun K hK => ?_
   go_simp
   (obtain ⟨V6, hw⟩ := zX (V2.alloc (.cells zero16 72)); rw [hw]; have hq : Below V2.heap.size V2 V6 := (by rw [← hw]; exact zA); have hz6 : Blk V6 V2.heap.size zero16 72 := (by rw [← hw]; exact Blk.new _ _ _); have hb6 := Below.trans hb2 (hq.mono (Below.size hb2)); have HGE := zh (Below.size hb2); clear hq hw; skip)
   (try go_wp2_with fail)
   refine hK.out _ _ ?_ fun hHeld => ?_
   ·(try dsimp only)
    (first | exact Below.refl _ _ | assumption)
   clear hK K
   (try simp only [Act.put, zS])
   refine wR [8] ?_
   refine aN rfl fun K hK => ?_
   go_simp
   (refine (HAD.out V6).mono ?_; rintro e V7 ⟨rfl, hq⟩; have hb7 := Below.trans hb6 (hq.mono (Below.size hb6)); have hz7 := Blk.below hz6 hq (Blk.lt hz6); clear hq; skip)
   (try go_wp2_with fail)
   refine hK.out _ _ ?_ fun hHeld => ?_
   ·(try dsimp only)
    (first | exact Below.refl _ _ | assumption)
   clear hK K
   (try simp only [Act.put, zS])
   refine wR [10] ?_
   refine aN rfl fun K hK => ?_
   (refine step_store16a rfl (.tmp 9) (.tmp 18) rfl (V2.heap.size) rfl T3 zero16 rfl hz7 HT3.out ⟨_, rfl⟩ ?_; obtain ⟨V8, hw⟩ := zX (V7.setCells (V2.heap.size) 0 T3.toList); rw [hw]; have hO : Own (V2.heap.size) V7 V8 := (by rw [← hw]; exact Own.setCells _ _ _); have HF : Hid (Blk V8 (V2.heap.size) T3 72) := zh (by rw [← hw]; exact Blk.store16a hz7 HT3.out ⟨_, rfl⟩); have hb8 := Below.trans hb7 (hO.below HGE.out (Below.size hb7)); have HB9 := zh hb8; clear hO hw; skip)
   refine hK.out _ _ ?_ fun hHeld => ?_
   ·(try dsimp only)
    (first | exact Below.refl _ _ | assumption)
   clear hK K
   (try simp only [Act.put, zS])
   refine wpAnyH_done (by kernel_rfl) ?_ _
   clear HLH HLK
   go_wp2_with fail
   go_ret
   exact ⟨_, rfl, HF.out, HW1.out.trans (HB9.out.mono HW1.out.size)⟩
  refine aN rfl fun K hK => ?_
  go_simp
  (obtain ⟨V9, hw⟩ := zX (V1.alloc (.cells zero16 72)); rw [hw]; have hq : Below V1.heap.size V1 V9 := (by rw [← hw]; exact zA); have hz9 : Blk V9 V1.heap.size zero16 72 := (by rw [← hw]; exact Blk.new _ _ _); have hb9 := Below.trans hb1 (hq.mono (Below.size hb1)); have HGE := zh (Below.size hb1); clear hq hw; skip)
  (try go_wp2_with fail)
  refine hK.out _ _ ?_ fun hHeld => ?_
  ·(try dsimp only)
   (first | exact Below.refl _ _ | assumption)
  clear hK K
  (try simp only [Act.put, zS])
  refine wR [7] ?_
  refine aN rfl fun K hK => ?_
  go_simp
  (refine (HCO.out V9 hb9).mono ?_; rintro e V10 ⟨rfl, hq⟩; have hb10 := Below.trans hb9 (hq.mono (Below.size hb9)); have hz10 := Blk.below hz9 hq (Blk.lt hz9); clear hq; skip)
  (try go_wp2_with fail)
  refine hK.out _ _ ?_ fun hHeld => ?_
  ·(try dsimp only)
   (first | exact Below.refl _ _ | assumption)
  clear hK K
  (try simp only [Act.put, zS])
  refine wR [8] ?_
  refine aN rfl fun K hK => ?_
  go_simp
  (refine (HAD.out V10).mono ?_; rintro e V11 ⟨rfl, hq⟩; have hb11 := Below.trans hb10 (hq.mono (Below.size hb10)); have hz11 := Blk.below hz10 hq (Blk.lt hz10); clear hq; skip)
  (try go_wp2_with fail)
  refine hK.out _ _ ?_ fun hHeld => ?_
  ·(try dsimp only)
   (first | exact Below.refl _ _ | assumption)
  clear hK K
  (try simp only [Act.put, zS])
  refine wR [10] ?_
  refine aN rfl fun K hK => ?_
  (refine step_store16a rfl (.tmp 9) (.tmp 18) rfl (V1.heap.size) rfl T3 zero16 rfl hz11 HT3.out ⟨_, rfl⟩ ?_; obtain ⟨V12, hw⟩ := zX (V11.setCells (V1.heap.size) 0 T3.toList); rw [hw]; have hO : Own (V1.heap.size) V11 V12 := (by rw [← hw]; exact Own.setCells _ _ _); have HF : Hid (Blk V12 (V1.heap.size) T3 72) := zh (by rw [← hw]; exact Blk.store16a hz11 HT3.out ⟨_, rfl⟩); have hb12 := Below.trans hb11 (hO.below HGE.out (Below.size hb11)); have HB9 := zh hb12; clear hO hw; skip)
  refine hK.out _ _ ?_ fun hHeld => ?_
  ·(try dsimp only)
   (first | exact Below.refl _ _ | assumption)
  clear hK K
  (try simp only [Act.put, zS])
  refine wpAnyH_done (by kernel_rfl) ?_ _
  clear HLH HLK
  go_wp2_with fail
  go_ret
  exact ⟨_, rfl, HF.out, HW1.out.trans (HB9.out.mono HW1.out.size)⟩
 refine aN rfl fun K hK => ?_
 go_simp
 (obtain ⟨V13, hw⟩ := zX (WR.alloc (.cells zero16 72)); rw [hw]; have hq : Below WR.heap.size WR V13 := (by rw [← hw]; exact zA); have hz13 : Blk V13 WR.heap.size zero16 72 := (by rw [← hw]; exact Blk.new _ _ _); have hb13 := Below.trans (Below.refl WR.heap.size WR) (hq.mono (Below.size (Below.refl WR.heap.size WR))); have HGE := zh (Below.size (Below.refl WR.heap.size WR)); clear hq hw; skip)
 (try go_wp2_with fail)
 refine hK.out _ _ ?_ fun hHeld => ?_
 ·(try dsimp only)
  (first | exact Below.refl _ _ | assumption)
 clear hK K
 (try simp only [Act.put, zS])
 refine wR [4] ?_
 refine aN rfl fun K hK => ?_
 go_simp
 (refine (HHA.out V13 hb13).mono ?_; rintro e V14 ⟨rfl, hq⟩; have hb14 := Below.trans hb13 (hq.mono (Below.size hb13)); have hz14 := Blk.below hz13 hq (Blk.lt hz13); clear hq; skip)
 (try go_wp2_with fail)
 refine hK.out _ _ ?_ fun hHeld => ?_
 ·(try dsimp only)
  (first | exact Below.refl _ _ | assumption)
 clear hK K
 (try simp only [Act.put, zS])
 refine wR [7] ?_
 refine aN rfl fun K hK => ?_
 go_simp
 (refine (HCO.out V14 hb14).mono ?_; rintro e V15 ⟨rfl, hq⟩; have hb15 := Below.trans hb14 (hq.mono (Below.size hb14)); have hz15 := Blk.below hz14 hq (Blk.lt hz14); clear hq; skip)
 (try go_wp2_with fail)
 refine hK.out _ _ ?_ fun hHeld => ?_
 ·(try dsimp only)
  (first | exact Below.refl _ _ | assumption)
 clear hK K
 (try simp only [Act.put, zS])
 refine wR [8] ?_
 refine aN rfl fun K hK => ?_
 go_simp
 (refine (HAD.out V15).mono ?_; rintro e V16 ⟨rfl, hq⟩; have hb16 := Below.trans hb15 (hq.mono (Below.size hb15)); have hz16 := Blk.below hz15 hq (Blk.lt hz15); clear hq; skip)
 (try go_wp2_with fail)
 refine hK.out _ _ ?_ fun hHeld => ?_
 ·(try dsimp only)
  (first | exact Below.refl _ _ | assumption)
 clear hK K
 (try simp only [Act.put, zS])
 refine wR [10] ?_
 refine aN rfl fun K hK => ?_
 (refine step_store16a rfl (.tmp 9) (.tmp 18) rfl (WR.heap.size) rfl T3 zero16 rfl hz16 HT3.out ⟨_, rfl⟩ ?_; obtain ⟨V17, hw⟩ := zX (V16.setCells (WR.heap.size) 0 T3.toList); rw [hw]; have hO : Own (WR.heap.size) V16 V17 := (by rw [← hw]; exact Own.setCells _ _ _); have HF : Hid (Blk V17 (WR.heap.size) T3 72) := zh (by rw [← hw]; exact Blk.store16a hz16 HT3.out ⟨_, rfl⟩); have hb17 := Below.trans hb16 (hO.below HGE.out (Below.size hb16)); have HB9 := zh hb17; clear hO hw; skip)
 refine hK.out _ _ ?_ fun hHeld => ?_
 ·(try dsimp only)
  (first | exact Below.refl _ _ | assumption)
 clear hK K
 (try simp only [Act.put, zS])
 refine wpAnyH_done (by kernel_rfl) ?_ _
 clear HLH HLK
 go_wp2_with fail
 go_ret
 exact ⟨_, rfl, HF.out, HW1.out.trans (HB9.out.mono HW1.out.size)⟩
theorem owns_lowE {w : World} {b b' n : Nat} {v : Value} {f : Nat → Nat} (h : Grow w b v n f) (hb : b' ≤ b) : Grow w b' v n f := by
 refine ⟨h.1, ?_⟩
 rcases h.2 with e | ⟨g, cap, cur, e, hg, r⟩
 ·exact .inl e
 ·exact .inr ⟨g, cap, cur, e, Nat.le_trans hb hg, r⟩
theorem own_ne {v v' : Value} {bm s : Nat} (h : ∀ q, v.ownBlock = some q → q ≠ bm) (hob : v'.ownBlock = v.ownBlock ∨ v'.ownBlock = some s) (hs : bm < s) : ∀ q, v'.ownBlock = some q → q ≠ bm := fun q hq => by
 rcases hob with e | e
 ·rw [e] at hq; exact h q hq
 ·rw [e] at hq; have := Option.some.inj hq; omega
def CS9 (b0 bm o0 r j P y : Nat) (A : World) : Prop := A.cell? ⟨b0, o0 + r, none⟩ = some (.int .u8 (P : Nat)) ∧ A.cell? ⟨bm, j, none⟩ = some (.int .u8 (y : Nat))
structure CQ (w0 : World) (W nn p : Nat → Nat) (bk : Nat) (k : Nat) (v : Value) (wr : World) : Prop where
 g : Grow wr w0.heap.size v k (cphF W nn p)
 b : Below w0.heap.size w0 wr
theorem CQ.later {w0 wr w' : World} {W nn p : Nat → Nat} {bk k : Nat} {v : Value} (h : CQ w0 W nn p bk k v wr) (hb : Below wr.heap.size wr w') : CQ w0 W nn p bk k v w' := ⟨h.g.later hb, h.b.trans (hb.mono h.b.size)⟩
theorem rcipher_any (W nn p : Nat → Nat) (n : Nat) (on ob : Option Addr) (capn cb : Nat) (w : World) (hn : Bytes w on 12 nn) (hp : Bytes w ob n p) (h5 : n < 1000000) :
    Calls Tryz.prog 48 #[.agg (kyC W), .slice on 12 capn, .slice ob n cb] w fun e w' => ∃ v, e = .returned v ∧ Grow w' w.heap.size v n (cphF W nn p) ∧ Below w.heap.size w w' := by
  obtain ⟨bk, hbk⟩ := zX w.heap.size
  obtain ⟨w1, hw1⟩ := zX (w.alloc (.cells (kyC W) 74))
  have hb1 : Below w.heap.size w w1 := by rw [← hw1]; exact zA
  have hk1 : Blk w1 bk (kyC W) 74 := by rw [← hw1, ← hbk]; exact Blk.new _ _ _
  obtain ⟨KC, hKC⟩ := zX (kyC W)
  have HLK : Hid (∀ A, Below w1.heap.size w1 A → (loadVar 74 ⟨bk, 0, none⟩).run Tryz.prog A = .ok (.agg KC) A) := zh fun A hA => by
    have h8 := Blk.below hk1 hA (Blk.lt hk1)
    have h9 := run_loadVar_mid A bk 0 74 (kyL W) _ (Blk.range (C := kyL W) h8) Tryz.underlying74 rfl (by rw [show (kyL W).length = 512 by unfold kyL; simp [rowC_len]]; exact info_ky)
    have e : (kyL W).toArray = KC := hKC
    rw [e] at h9; exact h9
  have HCO : Hid (∀ (A : World) (i : Nat), i < 1000000 → Below w1.heap.size w1 A → Calls Tryz.prog 69 #[.agg KC, .slice on 12 capn, .int .i64 ((2 : Int) + (i : Int))] A fun e w' => e = .returned (.agg (rowC 16 (cW W nn (2 + i))).toArray) ∧ Below A.heap.size A w') := zh fun A i hi hA => by
    rw [← hKC]
    have h9 := rcounter_any W nn on capn (2 + i) A ((hn.later hb1).later hA) (by omega)
    rw [show ((2 + i : Nat) : Int) = (2 : Int) + (i : Int) by omega] at h9
    exact h9
  have HP := zh (hp.later hb1)
  have HNL := zh (show ∀ i, i < 12 → nn i < 256 from fun i hi => (hn i hi).1)
  have HPL := zh (show ∀ i, i < n → p i < 256 from fun i hi => (hp i hi).1)
  have HB1 := zh hb1
  have HN5 := zh h5
  have n0 : (n : Int) ≤ 9223372036854775807 := by omega
  have hz := zero16a_run
  rw [hKC]
  rw [hKC] at hw1
  clear hb1 hk1 hKC hn hp h5
  go_enter Tryz.func48, Tryz.ntmps48
  go_wp2_with fail
  go_loopw [7, 8] (fun v x wr => ∃ i k : Nat, x = .int .i64 ((16 * i : Nat) : Int) ∧ i ≤ 1000000 ∧ k ≤ n ∧ (k = 16 * i ∨ (k = n ∧ n ≤ 16 * i)) ∧ CQ w1 W nn p bk k v wr) (fun _ x _ => n + 16 - (intOf x).toNat)
  case atStart => exact ⟨0, 0, rfl, by decide, Nat.zero_le _, .inl rfl, Grow.nil _ _ _, Below.refl _ _⟩
  case round =>
    obtain ⟨i, k, rfl, hi6, hkn, hki, hQ⟩ := hrel
    have HQ := zh hQ
    obtain ⟨t, ht⟩ := zX (16 * i)
    rw [ht] at hki ⊢
    by_cases hlt : t < n
    · obtain rfl : k = t := by omega
      have k1 : (k : Int) < (n : Int) := by omega
      have k2 : (k : Int).tdiv 16 = (i : Int) := tdk (n := 16) rfl (by omega)
      have k3 : (k : Int) / 16 = (i : Int) := by omega
      have k4 : IntKind.i64.wrap ((2 : Int) + (i : Int)) = (2 : Int) + (i : Int) := IntWalk.i64_in _ (by omega)
      have k5 : IntKind.i64.wrap (i : Int) = (i : Int) := IntWalk.i64_in _ (by omega)
      have k6 : IntKind.i64.wrap ((k : Int) + 16) = ((16 * (i + 1) : Nat) : Int) := by have := HN5.out; rw [IntWalk.i64_in _ (by omega)]; omega
      have HI := zh (show 16 * i = k ∧ k < n ∧ i + 1 ≤ 1000000 ∧ n < 1000000 from ⟨ht, hlt, by have := HN5.out; omega, HN5.out⟩)
      have c9 := HLK.out wr HQ.out.b
      clear hQ hki hkn hi6 ht hlt
      go_wp2_with (first | (refine wpList_value rfl (exec_loadC (ty := 74) (v := .agg KC) (b := bk) (f := 0) (x := .tmp 3) rfl rfl c9) ?_))
      refine (HCO.out wr i (by have := HI.out; omega) HQ.out.b).mono ?_
      rintro e w2 ⟨rfl, hb2⟩
      obtain ⟨bm, hbm⟩ := zX w2.heap.size
      obtain ⟨w3, hw3⟩ := zX (w2.alloc (.cells zero16 72))
      have hb3 : Below w2.heap.size w2 w3 := by rw [← hw3]; exact zA
      have hk3 : Blk w3 bm zero16 72 := by rw [← hw3, ← hbm]; exact Blk.new _ _ _
      have HQ3 := zh ((HQ.out.later hb2).later hb3)
      have HK3 := zh hk3
      have HMG := zh (show w1.heap.size ≤ bm ∧ (∀ q, u7.ownBlock = some q → q < bm) from ⟨by have := HQ.out.b.size; have := hb2.size; omega, fun q hq => by have := (HQ.out.g.lt q hq).2; have := hb2.size; omega⟩)
      clear hb2 hb3 hk3
      go_wp2_with (first
        | (refine wpList_store16a rfl (.tmp 9) (.tmp 22) rfl bm rfl (rowC 16 (cW W nn (2 + i))).toArray zero16 rfl HK3.out ⟨_, rfl⟩ ⟨_, rfl⟩ ?_
           obtain ⟨w4, hw4⟩ := zX (w3.setCells bm 0 (rowC 16 (cW W nn (2 + i))).toArray.toList)
           have hO : Own bm w3 w4 := (by rw [← hw4]; exact Own.setCells _ _ _)
           have HM4 : Hid (A16 w4 bm (cW W nn (2 + i))) := zh (by rw [← hw4]; exact Blk.store16a HK3.out ⟨_, rfl⟩ ⟨_, rfl⟩)
           have HQ4 : Hid (CQ w1 W nn p bk k u7 w4) := zh ⟨HQ3.out.g.ownN hO (fun q hq => Nat.ne_of_lt (HMG.out.2 q hq)), HQ3.out.b.trans (hO.below HMG.out.1 HQ3.out.b.size)⟩
           rw [hw4]
           clear hw4 hO
           refine Hid.out ?_))
      refine zh ?_
      go_wp2_with fail
      go_loopw [7, 10] (fun v x wr => ∃ j : Nat, j ≤ 16 ∧ x = .int .i64 (j : Int) ∧ k + j ≤ n ∧ CQ w1 W nn p bk (k + j) v wr ∧ A16 wr bm (cW W nn (2 + i)) ∧ (∀ q, v.ownBlock = some q → q ≠ bm)) (fun _ x _ => 16 - (intOf x).toNat)
      case atStart => exact ⟨0, by decide, rfl, by have := HI.out; omega, HQ4.out, HM4.out, fun q hq => Nat.ne_of_lt (HMG.out.2 q hq)⟩
      case round =>
        obtain ⟨j, hj, rfl, hkj, hQ, hM, hne⟩ := hrel
        have HQ := zh hQ
        have HM := zh hM
        have HNE := zh hne
        obtain ⟨r, hr⟩ := zX (k + j)
        rw [hr] at HQ hkj
        have j0 : (0 : Int) ≤ (j : Int) := by omega
        by_cases hc : j < 16 ∧ r < n
        · as_aux_lemma =>
          obtain ⟨hc1, hc2⟩ := hc
          have q1 : (j : Int) < 16 := by omega
          have q2 : IntKind.i64.wrap ((k : Int) + (j : Int)) = (r : Int) := by have := HI.out; rw [IntWalk.i64_in _ (by omega)]; omega
          have q3 : (k : Int) + (j : Int) = (r : Int) := by omega
          have q4 : (r : Int) < (n : Int) := by omega
          have q5 : (0 : Int) ≤ (r : Int) := by omega
          have q7 : IntKind.i64.wrap (r : Int) = (r : Int) := IntWalk.i64_in _ (by have := HI.out; omega)
          have q6 : IntKind.i64.wrap ((j : Int) + 1) = ((j + 1 : Nat) : Int) := by rw [IntWalk.i64_in _ (by omega)]; omega
          obtain ⟨h8, b0, o0, rfl, hc0⟩ := HP.out r hc2
          have hbx := (Below.refl wr.heap.size wr).drew
          have HQD := zh (HQ.out.later hbx)
          have HMD := zh (Blk.below HM.out hbx (Blk.lt HM.out))
          have HJ := zh (show j + 1 ≤ 16 ∧ r + 1 ≤ n ∧ k + (j + 1) = r + 1 ∧ r = 16 * i + j ∧ p r < 256 ∧ cW W nn (2 + i) j < 256 from ⟨hc1, hc2, by omega, by have := HI.out; omega, h8, cW_lt HNL.out j hc1⟩)
          clear hQ hM hne hkj hj hr hc1 hc2 h8
          go_upto_region 9 with fail
          have d0 : wr.drew.cell? ⟨b0, o0 + r, none⟩ = some (.int .u8 (p r : Nat)) := cell_below HQD.out.b hc0
          obtain ⟨y, hy⟩ := zX (cW W nn (2 + i) j)
          have d1 : wr.drew.cell? ⟨bm, j, none⟩ = some (.int .u8 (y : Nat)) := by rw [← hy]; exact A16.cell HMD.out (by have := HJ.out; omega)
          have HY := zh hy
          obtain ⟨z, hz9⟩ := zX (p r ^^^ y)
          have hyl : y < 256 := by rw [← hy]; exact HJ.out.2.2.2.2.2
          have hxx : bits .xor .u8 (p r : Int) (y : Int) = (z : Int) := by rw [← hz9]; exact u8_xor_nat _ _ HJ.out.2.2.2.2.1 hyl
          have HZ := zh (show z < 256 ∧ cphF W nn p r = z from ⟨by rw [← hz9]; exact xor_lt256 HJ.out.2.2.2.2.1 hyl, by
            unfold cphF
            rw [show r / 16 = i by have := HJ.out; omega, show r % 16 = j by have := HJ.out; omega, hy, hz9]⟩)
          have HND := zh (show ∀ q, u7.ownBlock = some q → q ≠ bm from HNE.out)
          have HBM := zh (Blk.lt HMD.out)
          have HC0 := zh hc0
          have HYY := zh hy
          clear hy
          clear hc0 hbx hz9 hyl
          have HS9 := zh (show CS9 b0 bm o0 r j (p r) y wr.drew from ⟨d0, d1⟩)
          clear d0 d1
          refine wp_region_held_drew (S := (CS9 b0 bm o0 r j (p r) y)) (by kernel_rfl) ?_ (fun hHeld => ?_)
          · (try dsimp only)
            (first | exact HS9.out | exact HS1.out | exact HS6.out)
          generalize wr.drew = WR at *
          refine wT 0 ?_ rfl ?_ ?_
          rotate_left
          · intro wS hSw
            (try dsimp only at hSw)
            go_simp
            (try with_reducible rfl)
          (try simp only [Act.put, zS])
          refine wT 1 ?_ rfl ?_ ?_
          rotate_left
          · intro wS hSw
            (try dsimp only at hSw)
            go_simp
            (try with_reducible rfl)
          (try simp only [Act.put, zS])
          refine wT 2 ?_ rfl ?_ ?_
          rotate_left
          · intro wS hSw
            (try dsimp only at hSw)
            go_simp
            (try with_reducible rfl)
          (try simp only [Act.put, zS])
          refine wT 3 ?_ rfl ?_ ?_
          rotate_left
          · intro wS hSw
            (try dsimp only at hSw)
            go_simp
            (try with_reducible rfl)
          (try simp only [Act.put, zS])
          refine wT 4 ?_ rfl ?_ ?_
          rotate_left
          · intro wS hSw
            (try dsimp only at hSw)
            go_simp
            (try with_reducible rfl)
          (try simp only [Act.put, zS])
          refine wT 5 ?_ rfl ?_ ?_
          rotate_left
          · intro wS hSw
            (try dsimp only at hSw)
            go_simp
            (try with_reducible rfl)
          (try simp only [Act.put, zS])
          refine wT 6 ?_ rfl ?_ ?_
          rotate_left
          · intro wS hSw
            (obtain ⟨d0, d1⟩ := hSw; go_simp; (try with_reducible rfl))
          (try simp only [Act.put, zS])
          refine wT 7 ?_ rfl ?_ ?_
          rotate_left
          · intro wS hSw
            (try dsimp only at hSw)
            go_simp
            (try with_reducible rfl)
          (try simp only [Act.put, zS])
          refine wT 8 ?_ rfl ?_ ?_
          rotate_left
          · intro wS hSw
            (try dsimp only at hSw)
            go_simp
            (try with_reducible rfl)
          (try simp only [Act.put, zS])
          refine wT 9 ?_ rfl ?_ ?_
          rotate_left
          · intro wS hSw
            (obtain ⟨d0, d1⟩ := hSw; go_simp; (try with_reducible rfl))
          (try simp only [Act.put, zS])
          refine wT 10 ?_ rfl ?_ ?_
          rotate_left
          · intro wS hSw
            (try dsimp only at hSw)
            go_simp
            (try with_reducible rfl)
          (try simp only [Act.put, zS])
          refine wR [11] ?_
          refine aN rfl fun K hK => ?_
          go_simp
          (obtain ⟨W1, hW1⟩ := zX (WR.alloc (.cells #[.int .u8 (z : Int)] 5)); rw [hW1]; have hal : Below WR.heap.size WR W1 := (by rw [← hW1]; exact zA); have HQA := zh (HQD.out.later hal); have HMA := zh (Blk.below HMD.out hal (Blk.lt HMD.out)); have HBA : Hid (Bytes W1 (some ⟨WR.heap.size, 0, none⟩) 1 (fun _ => z)) := zh (by rw [← hW1]; exact one_u8 rfl HZ.out.1); have HSZ := zh (Nat.lt_of_lt_of_le HBM.out hal.size); have HS1 : Hid (CS9 b0 bm o0 r j (p r) y W1) := zh ⟨cell_below HQA.out.b HC0.out, by rw [← HYY.out]; exact A16.cell HMA.out (by have := HJ.out; omega)⟩; clear hW1; skip)
          (try go_wp2_with fail)
          refine hK.out _ _ ?_ fun hHeld => ?_
          · (try dsimp only)
            (first | exact HS9.out | exact HS1.out | exact HS6.out)
          clear hK K
          (try simp only [Act.put, zS])
          refine wR [12] ?_
          refine aN rfl fun K hK => ?_
          (refine step_appO rfl (.tmp 35) (.tmp 46) rfl w1.heap.size u7 r 1 1 (some ⟨WR.heap.size, 0, none⟩) (cphF W nn p) (fun _ => z) W1 rfl HQA.out.g rfl (fun e => by cases e) HBA.out (by have := HJ.out; have := HN5.out; omega) HQA.out.b.size ?_; intro v6 w6 hG6 hg6 hob6; have HQ6 : Hid (CQ w1 W nn p bk (r + 1) v6 w6) := zh ⟨hG6.congr (catF_self fun q hq => (by rw [show r + q = r by omega]; exact HZ.out.2.symm)), HQA.out.b.trans (grow_bel HQA.out.g HQA.out.b.size hg6)⟩; have HM6 : Hid (A16 w6 bm (cW W nn (2 + i))) := zh ((own_of_grown hg6).blk HMA.out (ne_own (Blk.lt HMA.out) (fun e => HND.out bm e rfl))); have HN6 : Hid (∀ q, v6.ownBlock = some q → q ≠ bm) := zh (own_ne HND.out hob6 HSZ.out); have HS6 : Hid (CS9 b0 bm o0 r j (p r) y w6) := zh ⟨cell_below HQ6.out.b HC0.out, by rw [← HYY.out]; exact A16.cell HM6.out (by have := HJ.out; omega)⟩; clear hG6 hg6 hob6; skip)
          refine hK.out _ _ ?_ fun hHeld => ?_
          · (try dsimp only)
            (first | exact HS9.out | exact HS1.out | exact HS6.out)
          clear hK K
          (try simp only [Act.put, zS])
          refine wT 13 ?_ rfl ?_ ?_
          rotate_left
          · intro wS hSw
            (try dsimp only at hSw)
            go_simp
            (try with_reducible rfl)
          (try simp only [Act.put, zS])
          refine wpAnyH_done (by kernel_rfl) ?_ _
          go_wp2_with fail
          go_roundw
          case rel => exact ⟨j + 1, HJ.out.1, by first | rfl | go_num, by rw [HJ.out.2.2.1]; exact HJ.out.2.1, by rw [HJ.out.2.2.1]; exact HQ6.out, HM6.out, HN6.out⟩
          case measure => have := HJ.out; simp [intOf]; omega
        · as_aux_lemma =>
          have HX := zh (show r ≤ n ∧ r = k + j ∧ (r = 16 * (i + 1) ∨ (r = n ∧ n ≤ 16 * (i + 1))) from ⟨hkj, hr.symm, by have := HI.out; omega⟩)
          have hcc : j = 16 ∨ (j < 16 ∧ ¬ r < n) := by omega
          rcases hcc with rfl | ⟨h1, h2⟩
          · clear hQ hM hne hc
            go_wp2_with fail
            go_roundw
            case rel => exact ⟨i + 1, r, by first | rfl | go_num, HI.out.2.2.1, HX.out.1, HX.out.2.2, HQ.out⟩
            case measure => have := HI.out; simp [intOf]; omega
          · have q1 : (j : Int) < 16 := by omega
            have q2 : IntKind.i64.wrap ((k : Int) + (j : Int)) = (r : Int) := by have := HI.out; rw [IntWalk.i64_in _ (by omega)]; omega
            have q3 : (k : Int) + (j : Int) = (r : Int) := by omega
            have q4 : ¬ (r : Int) < (n : Int) := by omega
            have q5 : decide ((r : Int) < (n : Int)) = false := decide_eq_false q4
            have q7 : IntKind.i64.wrap (r : Int) = (r : Int) := IntWalk.i64_in _ (by have := HI.out; omega)
            clear hQ hM hne hc h1 h2
            go_wp2_with fail
            go_roundw
            case rel => exact ⟨i + 1, r, by first | rfl | go_num, HI.out.2.2.1, HX.out.1, HX.out.2.2, HQ.out⟩
            case measure => have := HI.out; simp [intOf]; omega
    · obtain rfl : k = n := by omega
      have k1 : ¬ (t : Int) < (k : Int) := by omega
      clear hQ hki hkn hi6 ht hlt
      go_wp2_with fail
      go_ret
      exact ⟨_, rfl, owns_lowE HQ.out.g (by have := HB1.out.size; omega), by have h9 := HB1.out.trans (HQ.out.b.mono HB1.out.size); first | exact h9 | (rw [hbk] at h9; exact h9)⟩
theorem ky_loads {w1 : World} {bk : Nat} {W : Nat → Nat} (hk : Blk w1 bk (kyC W) 74) : ∀ A, Below w1.heap.size w1 A → (loadVar 74 ⟨bk, 0, none⟩).run Tryz.prog A = .ok (.agg (kyC W)) A := fun A hA => by
 have h8 := Blk.below hk hA (Blk.lt hk)
 exact run_loadVar_mid A bk 0 74 (kyL W) _ (Blk.range (C := kyL W) h8) Tryz.underlying74 rfl (by rw [show (kyL W).length = 512 by unfold kyL; simp [rowC_len]]; exact info_ky)
theorem a16_bytes {w : World} {b : Nat} {f : Nat → Nat} (h : Blk w b (rowC 16 f).toArray 72) (hf : ∀ i, i < 16 → f i < 256) : Bytes w (some ⟨b, 0, none⟩) 16 f := fun k hk => ⟨hf k hk, b, 0, rfl, by
 rw [Nat.zero_add, Blk.cell h k, List.getElem?_toArray, rowC_get _ hk]⟩
theorem rseal_ok (W nn p a : Nat → Nat) (n an : Nat) (on ob oa : Option Addr) (capn cb ca : Nat) (w : World) (hn : Bytes w on 12 nn) (hp : Bytes w ob n p) (ha : Bytes w oa an a) (h5 : n ≤ 2048) (h6 : an ≤ 2048) :
    Calls Tryz.prog 27 #[.agg (kyC W), .slice on 12 capn, .slice ob n cb, .slice oa an ca] w fun e w' => ∃ v, e = .returned (.tuple #[v, .int .i64 0]) ∧ Grow w' w.heap.size v (n + 16) (boxF W nn p n a an) ∧ Below w.heap.size w w' := by
  obtain ⟨bk, hbk⟩ := zX w.heap.size
  obtain ⟨w1, hw1⟩ := zX (w.alloc (.cells (kyC W) 74))
  have hb1 : Below w.heap.size w w1 := by rw [← hw1]; exact zA
  have hk1 : Blk w1 bk (kyC W) 74 := by rw [← hw1, ← hbk]; exact Blk.new _ _ _
  have hld := ky_loads hk1
  obtain ⟨KC, hKC⟩ := zX (kyC W)
  rw [hKC] at hld hw1
  have HLK : Hid (∀ A, Below w1.heap.size w1 A → (loadVar 74 ⟨bk, 0, none⟩).run Tryz.prog A = .ok (.agg KC) A) := zh hld
  have HCI : Hid (Calls Tryz.prog 48 #[.agg KC, .slice on 12 capn, .slice ob n cb] w1 fun e w' => ∃ v, e = .returned v ∧ Grow w' w1.heap.size v n (cphF W nn p) ∧ Below w1.heap.size w1 w') := zh (by
    rw [← hKC]; exact rcipher_any W nn p n on ob capn cb w1 (hn.later hb1) (hp.later hb1) (by omega))
  have HTG : Hid (∀ (A : World) (oc : Option Addr) (cc : Nat), Below w1.heap.size w1 A → Bytes A oc n (cphF W nn p) → Calls Tryz.prog 49 #[.agg KC, .slice on 12 capn, .slice oc n cc, .slice oa an ca] A (TgP A (rowC 16 (tgF W nn a an (cphF W nn p) n)).toArray)) := zh fun A oc cc hA hB => by
    rw [← hKC]; exact rtag_any W nn (cphF W nn p) a n an on oc oa capn cc ca A ((hn.later hb1).later hA) hB ((ha.later hb1).later hA) (by omega) (by omega)
  have HNL := zh (show (∀ i, i < 12 → nn i < 256) ∧ (∀ i, i < n → p i < 256) from ⟨fun i hi => (hn i hi).1, fun i hi => (hp i hi).1⟩)
  have HB1 := zh hb1
  have HN5 := zh h5
  have n0 : (n : Int) ≤ 2048 := by omega
  have a0 : (an : Int) ≤ 2048 := by omega
  have n1 : ¬ (2048 : Int) < (n : Int) := by omega
  have a1 : ¬ (2048 : Int) < (an : Int) := by omega
  have n2 : decide ((2048 : Int) < (n : Int)) = false := decide_eq_false n1
  have a2 : decide ((2048 : Int) < (an : Int)) = false := decide_eq_false a1
  have c9 := hld w1 (Below.refl _ _)
  rw [hKC]
  clear hb1 hk1 hKC hn hp ha h5 h6 hld
  go_enter Tryz.func27, Tryz.ntmps27
  go_wp2_with (first | (refine wpList_value rfl (exec_loadC (ty := 74) (v := .agg KC) (b := bk) (f := 0) (x := .tmp 4) rfl rfl c9) ?_))
  refine HCI.out.mono ?_
  rintro e w2 ⟨v, rfl, hG, hb2⟩
  obtain ⟨oc, cc, rfl, hBc, _, hno⟩ := hG.bytesC (cphF_lt HNL.out.1 HNL.out.2)
  have HG2 := zh hG
  have HB2 := zh hb2
  have HT2 := zh (HTG.out w2 oc cc hb2 hBc)
  have d9 := HLK.out w2 hb2
  clear hG hb2 hBc hno HCI c9
  go_wp2_with (first | (refine wpList_value rfl (exec_loadC (ty := 74) (v := .agg KC) (b := bk) (f := 0) (x := .tmp 4) rfl rfl d9) ?_))
  refine HT2.out.mono ?_
  rintro e w3 ⟨bt, rfl, hkt, hb3⟩
  have HG3 := zh (HG2.out.later hb3)
  have HB3 := zh (HB2.out.trans (hb3.mono HB2.out.size))
  have HBT := zh (a16_bytes hkt (tgF_lt HNL.out.1))
  clear hkt hb3 d9 HT2
  go_wp2_with (first | (at_builtin; refine wpList_appO rfl (.tmp 28) (.tmp 33) rfl w1.heap.size (.slice oc n cc) n 16 16 (some ⟨bt, 0, none⟩) (cphF W nn p) (tgF W nn a an (cphF W nn p) n) w3 rfl HG3.out rfl (fun e => by cases e) HBT.out (by have := HN5.out; omega) HB3.out.size ?_
                        intro v6 w6 hG6 hg6 hob6
                        have HG6 := zh hG6
                        have HB6 := zh (HB3.out.trans (grow_bel HG3.out HB3.out.size hg6))
                        clear hG6 hg6 hob6
                        refine Hid.out ?_))
  refine zh ?_
  go_wp2_with fail
  refine bodyPost_ret (results_tmp2 rfl _ _ _) rfl ?_
  have h9 := HB1.out.trans (HB6.out.mono HB1.out.size)
  have h8 : Grow w6 w.heap.size v6 (n + 16) (boxF W nn p n a an) := owns_lowE HG6.out HB1.out.size
  first | exact ⟨v6, rfl, h8, h9⟩ | (rw [hbk] at h8 h9; exact ⟨v6, rfl, h8, h9⟩)
theorem ropen_any (W nn q a : Nat → Nat) (n an bo oo : Nat) (on oa : Option Addr) (capn cb ca : Nat) (w : World) (hn : Bytes w on 12 nn) (hp : Bytes w (some ⟨bo, oo, none⟩) (n + 16) q) (ha : Bytes w oa an a) (h4 : n + 16 ≤ cb) (h4m : cb ≤ maxLen) (h5 : n ≤ 2048) (h6 : an ≤ 2048) (hq : ∀ i, i < 16 → tgF W nn a an q n i = q (n + i)) :
  Calls Tryz.prog 30 #[.agg (kyC W), .slice on 12 capn, .slice (some ⟨bo, oo, none⟩) (n + 16) cb, .slice oa an ca] w fun e w' => ∃ v, e = .returned (.tuple #[v, .int .i64 0]) ∧ Grow w' w.heap.size v n (cphF W nn q) ∧ Below w.heap.size w w' := by
 obtain ⟨bk, hbk⟩ := zX w.heap.size
 obtain ⟨w1, hw1⟩ := zX (w.alloc (.cells (kyC W) 74))
 have hb1 : Below w.heap.size w w1 := by rw [← hw1]; exact zA
 have hk1 : Blk w1 bk (kyC W) 74 := by rw [← hw1, ← hbk]; exact Blk.new _ _ _
 have hbd := (Below.refl w1.heap.size w1).drew
 have hld := ky_loads hk1
 obtain ⟨KC, hKC⟩ := zX (kyC W)
 rw [hKC] at hld hw1
 have HLK : Hid (∀ A, Below w1.heap.size w1 A → (loadVar 74 ⟨bk, 0, none⟩).run Tryz.prog A = .ok (.agg KC) A) := zh hld
 have HW1 := zh hbd
 have hp1 := hp.later hb1
 have HTG : Hid (∀ (A : World), Below w1.drew.heap.size w1.drew A → Calls Tryz.prog 49 #[.agg KC, .slice on 12 capn, .slice (some ⟨bo, oo, none⟩) n cb, .slice oa an ca] A (TgP A (rowC 16 (tgF W nn a an q n)).toArray)) := zh fun A hA => by
  have hA1 := hbd.trans (hA.mono hbd.size)
  rw [← hKC]; exact rtag_any W nn q a n an on _ oa capn cb ca A ((hn.later hb1).later hA1) ((hp1.mono (by omega)).later hA1) ((ha.later hb1).later hA1) (by omega) (by omega)
 have HCI : Hid (∀ (A : World), Below w1.heap.size w1 A → Calls Tryz.prog 48 #[.agg KC, .slice on 12 capn, .slice (some ⟨bo, oo, none⟩) n cb] A fun e w' => ∃ v, e = .returned v ∧ Grow w' A.heap.size v n (cphF W nn q) ∧ Below A.heap.size A w') := zh fun A hA => by
  rw [← hKC]; exact rcipher_any W nn q n on _ capn cb A ((hn.later hb1).later hA) ((hp1.mono (by omega)).later hA) (by omega)
 have HNL := zh (show (∀ i, i < 12 → nn i < 256) ∧ True from ⟨fun i hi => (hn i hi).1, trivial⟩)
 have HQB : Hid (Bytes w1.drew (some ⟨bo, oo + n, none⟩) 16 (fun i => q (n + i))) := zh fun i hi => by
  obtain ⟨g1, b, off, g2, g3⟩ := (hp1.later hbd) (n + i) (by omega)
  cases g2
  exact ⟨g1, bo, oo + n, rfl, by rw [Nat.add_assoc]; exact g3⟩
 obtain ⟨S1, hS1⟩ := zX (strF 16 (tgF W nn a an q n))
 have HS1 := zh hS1
 have HS2 : Hid (strF 16 (fun i => q (n + i)) = S1) := zh (by rw [← hS1]; exact (strF_congr hq).symm)
 have HB1 := zh hb1
 have HN5 := zh (show n ≤ 2048 ∧ n + 16 ≤ cb ∧ cb ≤ maxLen from ⟨h5, h4, h4m⟩)
 have n0 : ((n : Int) + 16) ≤ 2064 := by omega
 have a0 : (an : Int) ≤ 2048 := by omega
 have n1 : ¬ (2064 : Int) < (n : Int) + 16 := by omega
 have a1 : ¬ (2048 : Int) < (an : Int) := by omega
 have n2 : decide ((2064 : Int) < (n : Int) + 16) = false := decide_eq_false n1
 have a2 : decide ((2048 : Int) < (an : Int)) = false := decide_eq_false a1
 have n3 : IntKind.i64.wrap ((n : Int) + 16 - 16) = (n : Int) := by rw [IntWalk.i64_in _ (by omega)]; omega
 have n4 : (n : Int) + 16 - 16 = (n : Int) := by omega
 have n6 : ¬ (n : Int) < 0 := by omega
 have n7 : decide ((n : Int) < 0) = false := decide_eq_false n6
 have n8 : ¬ cb = n := by omega
 have n9 : (n : Int) ≤ (cb : Int) := by omega
 have m1 : n ≤ cb := by omega
 have m2 : (n : Int) ≤ (n : Int) + 16 := by omega
 have m3 : n ≤ n + 16 := by omega
 have m4 : n + 16 - n = 16 := by omega
 rw [hKC]
 clear hb1 hk1 hKC hn hp ha h5 h6 hld hbd hp1 hq hS1 h4 h4m
 go_enter Tryz.func30, Tryz.ntmps30
 go_wp2_with fail
 go_upto_region 4 with fail
 refine wp_region_held_drew (S := (Below w1.drew.heap.size w1.drew)) (by kernel_rfl) ?_ (fun hHeld => ?_)
 ·(try dsimp only)
  (first | exact Below.refl _ _ | assumption)
 generalize w1.drew = WR at *
 refine wT 0 ?_ rfl ?_ ?_
 rotate_left
 ·intro wS hSw
  (try dsimp only at hSw)
  go_simp
  (try with_reducible rfl)
 (try simp only [Act.put, zS])
 refine wT 1 ?_ rfl ?_ ?_
 rotate_left
 ·intro wS hSw
  (try dsimp only at hSw)
  go_simp
  (try with_reducible rfl)
 (try simp only [Act.put, zS])
 refine wT 2 ?_ rfl ?_ ?_
 rotate_left
 ·intro wS hSw
  (try dsimp only at hSw)
  go_simp
  (try with_reducible rfl)
 (try simp only [Act.put, zS])
 refine wT 3 ?_ rfl ?_ ?_
 rotate_left
 ·intro wS hSw
  (have c9 := HLK.out wS (HW1.out.trans (hSw.mono HW1.out.size)); refine exec_loadC (ty := 74) (v := .agg KC) (b := bk) (f := 0) (x := .tmp 4) ?_ ?_ c9 <;> rfl)
 (try simp only [Act.put, zS])
 refine wT 4 ?_ rfl ?_ ?_
 rotate_left
 ·intro wS hSw
  (try dsimp only at hSw)
  go_simp
  (try with_reducible rfl)
 (try simp only [Act.put, zS])
 refine wT 5 ?_ rfl ?_ ?_
 rotate_left
 ·intro wS hSw
  (try dsimp only at hSw)
  go_simp
  (try with_reducible rfl)
 (try simp only [Act.put, zS])
 refine wT 6 ?_ rfl ?_ ?_
 rotate_left
 ·intro wS hSw
  (try dsimp only at hSw)
  go_simp
  (try with_reducible rfl)
 (try simp only [Act.put, zS])
 refine wT 7 ?_ rfl ?_ ?_
 rotate_left
 ·intro wS hSw
  (try dsimp only at hSw)
  go_simp
  (try with_reducible rfl)
 (try simp only [Act.put, zS])
 refine wT 8 ?_ rfl ?_ ?_
 rotate_left
 ·intro wS hSw
  (try dsimp only at hSw)
  go_simp
  (try with_reducible rfl)
 (try simp only [Act.put, zS])
 refine wT 11 ?_ rfl ?_ ?_
 rotate_left
 ·intro wS hSw
  (try dsimp only at hSw)
  go_simp
  (try with_reducible rfl)
 (try simp only [Act.put, zS])
 refine wT 12 ?_ rfl ?_ ?_
 rotate_left
 ·intro wS hSw
  (try dsimp only at hSw)
  go_simp
  (try with_reducible rfl)
 (try simp only [Act.put, zS])
 refine wT 13 ?_ rfl ?_ ?_
 rotate_left
 ·intro wS hSw
  (try dsimp only at hSw)
  go_simp
  (try with_reducible rfl)
 (try simp only [Act.put, zS])
 refine wT 14 ?_ rfl ?_ ?_
 rotate_left
 ·intro wS hSw
  (have cvq := conv_any (cap := cb - n) (HQB.out.later hSw) (fun e => by cases e); rw [HS2.out] at cvq; go_simp; (try with_reducible rfl))
 (try simp only [Act.put, zS])
 refine wR [9] ?_
 refine aN rfl fun K hK => ?_
 go_simp
 (refine (HTG.out WR (Below.refl _ _)).mono ?_; rintro e V1 ⟨bt, rfl, hkt, hb3⟩; have HB3 := zh hb3; have HCV := zh (conv_any (cap := 16) (a16_bytes hkt (tgF_lt HNL.out.1)) (fun e => by cases e)); clear hkt; skip)
 (try go_wp2_with fail)
 refine hK.out _ _ ?_ fun hHeld => ?_
 ·(try dsimp only)
  (first | exact Below.refl _ _ | assumption)
 clear hK K
 (try simp only [Act.put, zS])
 refine wR [10] ?_
 refine aN rfl fun K hK => ?_
 (refine step_valueG (v := .string S1) (by rfl) (by (have cvq := HCV.out; rw [HS1.out] at cvq; go_simp; (try with_reducible rfl))) ?_; skip)
 refine hK.out _ _ ?_ fun hHeld => ?_
 ·(try dsimp only)
  (first | exact Below.refl _ _ | assumption)
 clear hK K
 (try simp only [Act.put, zS])
 refine wT 15 ?_ rfl ?_ ?_
 rotate_left
 ·intro wS hSw
  (try dsimp only at hSw)
  go_simp
  (try with_reducible rfl)
 (try simp only [Act.put, zS])
 refine wT 16 ?_ rfl ?_ ?_
 rotate_left
 ·intro wS hSw
  (try dsimp only at hSw)
  go_simp
  (try with_reducible rfl)
 (try simp only [Act.put, zS])
 refine wpAnyH_done (by kernel_rfl) ?_ _
 go_wp2_with fail
 go_upto_region 6 with fail
 have hV1 := HW1.out.trans (HB3.out.mono HW1.out.size)
 have hVD := hV1.trans ((Below.refl V1.heap.size V1).drew.mono hV1.size)
 have HVD := zh hVD
 clear hVD hV1 hb3
 refine wp_region_held_drew (S := (Below V1.drew.heap.size V1.drew)) (by kernel_rfl) ?_ (fun hHeld => ?_)
 ·(try dsimp only)
  (first | exact Below.refl _ _ | assumption)
 generalize V1.drew = WQ at *
 refine wT 0 ?_ rfl ?_ ?_
 rotate_left
 ·intro wS hSw
  (have c9 := HLK.out wS (HVD.out.trans (hSw.mono HVD.out.size)); refine exec_loadC (ty := 74) (v := .agg KC) (b := bk) (f := 0) (x := .tmp 4) ?_ ?_ c9 <;> rfl)
 (try simp only [Act.put, zS])
 refine wT 1 ?_ rfl ?_ ?_
 rotate_left
 ·intro wS hSw
  (try dsimp only at hSw)
  go_simp
  (try with_reducible rfl)
 (try simp only [Act.put, zS])
 refine wT 2 ?_ rfl ?_ ?_
 rotate_left
 ·intro wS hSw
  (try dsimp only at hSw)
  go_simp
  (try with_reducible rfl)
 (try simp only [Act.put, zS])
 refine wT 3 ?_ rfl ?_ ?_
 rotate_left
 ·intro wS hSw
  (try dsimp only at hSw)
  go_simp
  (try with_reducible rfl)
 (try simp only [Act.put, zS])
 refine wT 4 ?_ rfl ?_ ?_
 rotate_left
 ·intro wS hSw
  (try dsimp only at hSw)
  go_simp
  (try with_reducible rfl)
 (try simp only [Act.put, zS])
 refine wR [5] ?_
 refine aN rfl fun K hK => ?_
 go_simp
 (refine (HCI.out WQ HVD.out).mono ?_; rintro e V2 ⟨v, rfl, hG4, hb4⟩; have HG4 := zh hG4; have HB4 := zh hb4; skip)
 (try go_wp2_with fail)
 refine hK.out _ _ ?_ fun hHeld => ?_
 ·(try dsimp only)
  (first | exact Below.refl _ _ | assumption)
 clear hK K
 (try simp only [Act.put, zS])
 refine wT 6 ?_ rfl ?_ ?_
 rotate_left
 ·intro wS hSw
  (try dsimp only at hSw)
  go_simp
  (try with_reducible rfl)
 (try simp only [Act.put, zS])
 refine wT 7 ?_ rfl ?_ ?_
 rotate_left
 ·intro wS hSw
  (try dsimp only at hSw)
  go_simp
  (try with_reducible rfl)
 (try simp only [Act.put, zS])
 refine wpAnyH_done (by kernel_rfl) ?_ _
 go_wp2_with fail
 refine bodyPost_ret (results_tmp2 rfl _ _ _) rfl ?_
 have h7 := HB1.out.trans (HVD.out.mono HB1.out.size)
 have h9 := h7.trans (HB4.out.mono h7.size)
 have h8 : Grow V2 w.heap.size v n (cphF W nn q) := owns_lowE HG4.out h7.size
 first | exact ⟨v, rfl, h8, h9⟩ | (rw [hbk] at h8 h9; exact ⟨v, rfl, h8, h9⟩)
end Go.Proofs.YtncfocjmdecapaaGreatDoor
