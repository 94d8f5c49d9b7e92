/- Part of the proof: what stands here serves the walks of the functions that the statement calls. -/
import Derived.Lib.UnsafeStr
import Derived.Lib.SlBytesConst
import Derived.ArgAppend
import Derived.Test.YtncfocjmdecapaaGreatDoorY18
import Derived.Test.YtncfocjmdecapaaGreatDoorY24
namespace Go.Proofs.YtncfocjmdecapaaGreatDoor
set_option linter.unusedVariables false
set_option linter.unusedSimpArgs false
open Go.RowKit
set_option maxRecDepth 100000
set_option maxHeartbeats 8000000
theorem exec_neS {o : Oper} {a : Act} {w : World} {x y : Operand} {r : TypeId} {X Y : ByteArray} (ho : o.op = .binOp .neq 9 x y r) (hx : a.eval x = .string X) (hy : a.eval y = .string Y) (h : X ≠ Y) : (execOp a.eval o).run Tryz.prog w = .ok (.value (.bool true)) w := by
 have h1 : (X.toList == Y.toList) = false := by simpa using str_ne h
 have h2 : (binOp .neq 9 (.string X) (.string Y)).run Tryz.prog w = .ok (.bool true) w := by rw [binOp_string_neq, h1]; rfl
 unfold execOp
 simp only [ho, hx, hy]
 simp only [eqGuard, Sem.run_bind, Sem.run_pure, Result.andThen_ok, Bool.not_true, Bool.false_eq_true, if_false]
 rw [h2]
 rfl
theorem ropen_unlike (W nn q a : Nat → Nat) (n an bo oo : Nat) (on oa : Option Addr) (capn cb ca : Nat) (w : World) (hn : Bytes w on 12 nn) (hp : Bytes w (some ⟨bo, oo, none⟩) (n + 16) q) (ha : Bytes w oa an a) (h4 : n + 16 ≤ cb) (h4m : cb ≤ maxLen) (h5 : n ≤ 2048) (h6 : an ≤ 2048) (hq : ∃ i, i < 16 ∧ tgF W nn a an q n i ≠ q (n + i)) :
  Calls Tryz.prog 30 #[.agg (kyC W), .slice on 12 capn, .slice (some ⟨bo, oo, none⟩) (n + 16) cb, .slice oa an ca] w fun e w' => e = .returned (.tuple #[.slice none 0 0, .int .i64 11]) ∧ Below w.heap.size w w' := by
 obtain ⟨bk, hbk⟩ := zX w.heap.size
 obtain ⟨w1, hw1⟩ := zX (w.alloc (.cells (kyC W) 74))
 have hb1 : Below w.heap.size w w1 := by rw [← hw1]; exact zA
 have hk1 : Blk w1 bk (kyC W) 74 := by rw [← hw1, ← hbk]; exact Blk.new _ _ _
 have hbd := (Below.refl w1.heap.size w1).drew
 have hld := ky_loads hk1
 obtain ⟨KC, hKC⟩ := zX (kyC W)
 rw [hKC] at hld hw1
 have HLK : Hid (∀ A, Below w1.heap.size w1 A → (loadVar 74 ⟨bk, 0, none⟩).run Tryz.prog A = .ok (.agg KC) A) := zh hld
 have HW1 := zh hbd
 have hp1 := hp.later hb1
 have HTG : Hid (∀ (A : World), Below w1.drew.heap.size w1.drew A → Calls Tryz.prog 49 #[.agg KC, .slice on 12 capn, .slice (some ⟨bo, oo, none⟩) n cb, .slice oa an ca] A (TgP A (rowC 16 (tgF W nn a an q n)).toArray)) := zh fun A hA => by
  have hA1 := hbd.trans (hA.mono hbd.size)
  rw [← hKC]; exact rtag_any W nn q a n an on _ oa capn cb ca A ((hn.later hb1).later hA1) ((hp1.mono (by omega)).later hA1) ((ha.later hb1).later hA1) (by omega) (by omega)
 have HCI : Hid (∀ (A : World), Below w1.heap.size w1 A → Calls Tryz.prog 48 #[.agg KC, .slice on 12 capn, .slice (some ⟨bo, oo, none⟩) n cb] A fun e w' => ∃ v, e = .returned v ∧ Grow w' A.heap.size v n (cphF W nn q) ∧ Below A.heap.size A w') := zh fun A hA => by
  rw [← hKC]; exact rcipher_any W nn q n on _ capn cb A ((hn.later hb1).later hA) ((hp1.mono (by omega)).later hA) (by omega)
 have HNL := zh (show (∀ i, i < 12 → nn i < 256) ∧ True from ⟨fun i hi => (hn i hi).1, trivial⟩)
 have HQB : Hid (Bytes w1.drew (some ⟨bo, oo + n, none⟩) 16 (fun i => q (n + i))) := zh fun i hi => by
  obtain ⟨g1, b, off, g2, g3⟩ := (hp1.later hbd) (n + i) (by omega)
  cases g2
  exact ⟨g1, bo, oo + n, rfl, by rw [Nat.add_assoc]; exact g3⟩
 obtain ⟨S1, hS1⟩ := zX (strF 16 (tgF W nn a an q n))
 have HS1 := zh hS1
 obtain ⟨S2, hS2⟩ := zX (strF 16 (fun i => q (n + i)))
 have HS2 := zh hS2
 have hne : ¬ S1 = S2 := by
  rw [← hS1, ← hS2]; obtain ⟨i, hi, hx⟩ := hq; exact fun e => hx ((strF_inj (tgF_lt HNL.out.1) (fun i hi => (HQB.out i hi).1) e).2 i hi)
 have HNE := zh hne
 clear hne
 have HB1 := zh hb1
 have HN5 := zh (show n ≤ 2048 ∧ n + 16 ≤ cb ∧ cb ≤ maxLen from ⟨h5, h4, h4m⟩)
 have n0 : ((n : Int) + 16) ≤ 2064 := by omega
 have a0 : (an : Int) ≤ 2048 := by omega
 have n1 : ¬ (2064 : Int) < (n : Int) + 16 := by omega
 have a1 : ¬ (2048 : Int) < (an : Int) := by omega
 have n2 : decide ((2064 : Int) < (n : Int) + 16) = false := decide_eq_false n1
 have a2 : decide ((2048 : Int) < (an : Int)) = false := decide_eq_false a1
 have n3 : IntKind.i64.wrap ((n : Int) + 16 - 16) = (n : Int) := by rw [IntWalk.i64_in _ (by omega)]; omega
 have n4 : (n : Int) + 16 - 16 = (n : Int) := by omega
 have n6 : ¬ (n : Int) < 0 := by omega
 have n7 : decide ((n : Int) < 0) = false := decide_eq_false n6
 have n8 : ¬ cb = n := by omega
 have n9 : (n : Int) ≤ (cb : Int) := by omega
 have m1 : n ≤ cb := by omega
 have m2 : (n : Int) ≤ (n : Int) + 16 := by omega
 have m3 : n ≤ n + 16 := by omega
 have m4 : n + 16 - n = 16 := by omega
 rw [hKC]
 clear hb1 hk1 hKC hn hp ha h5 h6 hld hbd hp1 hq hS1 hS2 h4 h4m
 go_enter Tryz.func30, Tryz.ntmps30
 go_wp2_with fail
 go_upto_region 4 with fail
 refine wp_region_held_drew (S := (Below w1.drew.heap.size w1.drew)) (by kernel_rfl) ?_ (fun hHeld => ?_)
 ·(try dsimp only)
  (first | exact Below.refl _ _ | assumption)
 generalize w1.drew = WR at *
 refine wT 0 ?_ rfl ?_ ?_
 rotate_left
 ·intro wS hSw
  (try dsimp only at hSw)
  go_simp
  (try with_reducible rfl)
 (try simp only [Act.put, zS])
 refine wT 1 ?_ rfl ?_ ?_
 rotate_left
 ·intro wS hSw
  (try dsimp only at hSw)
  go_simp
  (try with_reducible rfl)
 (try simp only [Act.put, zS])
 refine wT 2 ?_ rfl ?_ ?_
 rotate_left
 ·intro wS hSw
  (try dsimp only at hSw)
  go_simp
  (try with_reducible rfl)
 (try simp only [Act.put, zS])
 refine wT 3 ?_ rfl ?_ ?_
 rotate_left
 ·intro wS hSw
  (have c9 := HLK.out wS (HW1.out.trans (hSw.mono HW1.out.size)); refine exec_loadC (ty := 74) (v := .agg KC) (b := bk) (f := 0) (x := .tmp 4) ?_ ?_ c9 <;> rfl)
 (try simp only [Act.put, zS])
 refine wT 4 ?_ rfl ?_ ?_
 rotate_left
 ·intro wS hSw
  (try dsimp only at hSw)
  go_simp
  (try with_reducible rfl)
 (try simp only [Act.put, zS])
 refine wT 5 ?_ rfl ?_ ?_
 rotate_left
 ·intro wS hSw
  (try dsimp only at hSw)
  go_simp
  (try with_reducible rfl)
 (try simp only [Act.put, zS])
 refine wT 6 ?_ rfl ?_ ?_
 rotate_left
 ·intro wS hSw
  (try dsimp only at hSw)
  go_simp
  (try with_reducible rfl)
 (try simp only [Act.put, zS])
 refine wT 7 ?_ rfl ?_ ?_
 rotate_left
 ·intro wS hSw
  (try dsimp only at hSw)
  go_simp
  (try with_reducible rfl)
 (try simp only [Act.put, zS])
 refine wT 8 ?_ rfl ?_ ?_
 rotate_left
 ·intro wS hSw
  (try dsimp only at hSw)
  go_simp
  (try with_reducible rfl)
 (try simp only [Act.put, zS])
 refine wT 11 ?_ rfl ?_ ?_
 rotate_left
 ·intro wS hSw
  (try dsimp only at hSw)
  go_simp
  (try with_reducible rfl)
 (try simp only [Act.put, zS])
 refine wT 12 ?_ rfl ?_ ?_
 rotate_left
 ·intro wS hSw
  (try dsimp only at hSw)
  go_simp
  (try with_reducible rfl)
 (try simp only [Act.put, zS])
 refine wT 13 ?_ rfl ?_ ?_
 rotate_left
 ·intro wS hSw
  (try dsimp only at hSw)
  go_simp
  (try with_reducible rfl)
 (try simp only [Act.put, zS])
 refine wT 14 ?_ rfl ?_ ?_
 rotate_left
 ·intro wS hSw
  (have cvq := conv_any (cap := cb - n) (HQB.out.later hSw) (fun e => by cases e); rw [HS2.out] at cvq; go_simp; (try with_reducible rfl))
 (try simp only [Act.put, zS])
 refine wR [9] ?_
 refine aN rfl fun K hK => ?_
 go_simp
 (refine (HTG.out WR (Below.refl _ _)).mono ?_; rintro e V1 ⟨bt, rfl, hkt, hb3⟩; have HB3 := zh hb3; have HCV := zh (conv_any (cap := 16) (a16_bytes hkt (tgF_lt HNL.out.1)) (fun e => by cases e)); clear hkt; skip)
 (try go_wp2_with fail)
 refine hK.out _ _ ?_ fun hHeld => ?_
 ·(try dsimp only)
  (first | exact Below.refl _ _ | assumption)
 clear hK K
 (try simp only [Act.put, zS])
 refine wR [10] ?_
 refine aN rfl fun K hK => ?_
 (refine step_valueG (v := .string S1) (by rfl) (by (have cvq := HCV.out; rw [HS1.out] at cvq; go_simp; (try with_reducible rfl))) ?_; skip)
 refine hK.out _ _ ?_ fun hHeld => ?_
 ·(try dsimp only)
  (first | exact Below.refl _ _ | assumption)
 clear hK K
 (try simp only [Act.put, zS])
 refine wT 15 ?_ rfl ?_ ?_
 rotate_left
 ·intro wS hSw
  (refine exec_neS (r := 9) (x := .tmp 37) (y := .tmp 41) (X := S1) (Y := S2) ?_ ?_ ?_ HNE.out <;> rfl)
 (try simp only [Act.put, zS])
 refine wT 16 ?_ rfl ?_ ?_
 rotate_left
 ·intro wS hSw
  (try dsimp only at hSw)
  go_simp
  (try with_reducible rfl)
 (try simp only [Act.put, zS])
 refine wpAnyH_done (by kernel_rfl) ?_ _
 go_wp2_with fail
 refine bodyPost_ret (results_tmp2 rfl _ _ _) rfl ?_
 have h7 := HB1.out.trans (HW1.out.mono HB1.out.size)
 have h9 := h7.trans (HB3.out.mono h7.size)
 first | exact ⟨rfl, h9⟩ | (rw [hbk] at h9; exact ⟨rfl, h9⟩)
set_option maxHeartbeats 4000000
theorem Grow.bytesM {w : World} {base n : Nat} {v : Value} {f : Nat → Nat} (h : Grow w base v n f) (hf : ∀ i, i < n → f i < 256) :
  ∃ oa cap, v = .slice oa n cap ∧ Bytes w oa n f ∧ n ≤ cap ∧ cap ≤ maxLen ∧ (oa = none → n = 0) := by
 obtain ⟨oa, cap, hv, hB, _⟩ := h.bytes hf
 refine ⟨oa, cap, hv, hB, ?_⟩
 rcases h.2 with ⟨h2, h3⟩ | ⟨g, cap', cur, h2, _, _, h3, h4, _⟩
 ·rw [hv] at h2; cases h2; exact ⟨by omega, by unfold maxLen; omega, fun _ => h3⟩
 ·rw [hv] at h2; cases h2; exact ⟨h3, h4, fun e => by cases e⟩
theorem seal_any (g kb bx : Nat) (W nn p a : Nat → Nat) (n an : Nat) (on ob oa : Option Addr) (capn cap capa : Nat) (w : World) (hK : KG w g kb bx W) (hn : Bytes w on 12 nn) (hnb : ∀ x, on = some x → x.block ≠ bx)
  (hp : Bytes w ob n p) (hpb : ∀ x, ob = some x → 0 < n → x.block ≠ bx) (ha : Bytes w oa an a) (hab : ∀ x, oa = some x → 0 < an → x.block ≠ bx) (hc : n ≤ cap) (hm : cap ≤ maxLen) (hc2 : an ≤ capa) (hm2 : capa ≤ maxLen) (hs : n ≤ 2048) (hs2 : an ≤ 2048) :
  Calls Tryz.prog 19 #[.pointer (some ⟨g, 0, none⟩), .slice on 12 capn, .slice ob n cap, .slice oa an capa] w fun e w' => ∃ v, e = .returned (.tuple #[v, .nilIface]) ∧ Grow w' (w.heap.size + 2) v (n + 16) (boxF W nn p n a an) ∧ KG w' g kb bx W ∧ Own bx w w' := by
 have hz := zero16_run
 have hnn : ∀ i, i < 12 → nn i < 256 := fun i hi => (hn i hi).1
 have hpp : ∀ i, i < n → p i < 256 := fun i hi => (hp i hi).1
 have HF : Hid (∀ i, i < n → cphF W nn p i < 256) := zh (cphF_lt hnn hpp)
 have HT : Hid (∀ i, i < 16 → tgF W nn a an (cphF W nn p) n i < 256) := zh (tgF_lt hnn)
 have HCI := zh (ciph_any g kb bx W nn p n on ob capn cap w hK hn hnb hp hpb hc hm (by omega))
 have HST := zh (show KG w g kb bx W ∧ Bytes w on 12 nn ∧ (∀ x, on = some x → x.block ≠ bx) ∧ Bytes w oa an a ∧ (∀ x, oa = some x → 0 < an → x.block ≠ bx) ∧ an ≤ capa ∧ capa ≤ maxLen ∧ n ≤ 2048 ∧ an ≤ 2048 from ⟨hK, hn, hnb, ha, hab, hc2, hm2, hs, hs2⟩)
 have e1 : ¬ ((2048 : Int) < (n : Int)) := by omega
 have e2 : ¬ ((2048 : Int) < (an : Int)) := by omega
 have e3 : decide ((2048 : Int) < (n : Int)) = false := decide_eq_false e1
 have e4 : decide ((2048 : Int) < (an : Int)) = false := decide_eq_false e2
 clear hK hn hnb hp hpb ha hab hc hm hc2 hm2 hs hs2 hnn hpp
 go_enter Tryz.func19, Tryz.ntmps19
 go_wp2_with fail
 refine HCI.out.mono ?_
 rintro e w1 ⟨v, rfl, hG1, hK1, hO1, hS1⟩
 have HSG := zh hS1
 clear hS1
 obtain ⟨oc, cp, hv, hB1, hnc, hcm, hno⟩ := hG1.bytesM HF.out
 subst hv
 obtain ⟨T, hT⟩ := zX ((rowC 16 (tgF W nn a an (cphF W nn p) n)).toArray)
 have HTG : Hid (Calls Tryz.prog 37 #[.pointer (some ⟨g, 0, none⟩), .slice on 12 capn, .slice oc n cp, .slice oa an capa] w1 fun e w' => e = .returned (.agg T) ∧ KG w' g kb bx W ∧ Own bx w1 w') := zh (by
  obtain ⟨h1, h2, h3, h4, h5, h6, h7, h8, h9⟩ := HST.out
  rw [← hT]
  exact tag_any g kb bx W nn (cphF W nn p) a n an on oc oa capn cp capa w1 hK1 (h2.own hO1 (fun x hx _ => h3 x hx)) hB1 (h4.own hO1 h5) h3 hnc h6 hcm h7 (by omega) (by omega))
 have HG1 := zh hG1
 have HO1 := zh hO1
 have HTE := zh hT
 have HNO := zh hno
 have HTC : Hid (∃ f, T = (rowC 16 f).toArray) := zh ⟨_, hT.symm⟩
 have HZC : Hid (∃ f, zero16 = (rowC 16 f).toArray) := zh ⟨_, rfl⟩
 clear hG1 hK1 hO1 hB1 hnc hcm hno hT HCI
 go_wp2_with fail
 refine HTG.out.mono ?_
 rintro e w2 ⟨rfl, hK2, hO2⟩
 have hlt := HST.out.1.lt
 have hG2 := HG1.out.ownN hO2 (fun q hq => by have := HG1.out.lt q hq; omega)
 have hba : Below w2.heap.size w2 (w2.alloc (.cells zero16 82)) := zA
 have hOA := HO1.out.trans hO2
 have hOs : Own w2.heap.size (w2.alloc (.cells zero16 82)) ((w2.alloc (.cells zero16 82)).setCells w2.heap.size 0 T.toList) := Own.setCells _ _ _
 have HXS := zh (show w.heap.size + 2 ≤ w2.heap.size + 1 from by have h1 := hO2.size; have h2 := HSG.out; omega)
 have hZ2 : Blk (w2.alloc (.cells zero16 82)) w2.heap.size zero16 82 := Blk.new _ _ _
 have hT2 := Blk.store16 hZ2 HTC.out HZC.out
 have hbs : Below w2.heap.size w2 ((w2.alloc (.cells zero16 82)).setCells w2.heap.size 0 T.toList) := hba.trans (hOs.below (Nat.le_refl _) (by simp))
 have hG3 := hG2.later hbs
 have hK3 := hK2.below hbs
 have hO3 := hOA.trans (Own.of_below hbs)
 have hBT : Bytes ((w2.alloc (.cells zero16 82)).setCells w2.heap.size 0 T.toList) (some ⟨w2.heap.size, 0, none⟩) 16 (tgF W nn a an (cphF W nn p) n) := fun k hk => ⟨HT.out k hk, _, 0, rfl, by
  have := hT2; rw [← HTE.out] at this
  rw [Nat.zero_add]; exact B16.cell (by rw [← HTE.out]; exact this) hk⟩
 have HZ2 := zh hZ2
 have HX := zh (show Grow ((w2.alloc (.cells zero16 82)).setCells w2.heap.size 0 T.toList) (w.heap.size + 2) (.slice oc n cp) n (cphF W nn p) ∧ KG ((w2.alloc (.cells zero16 82)).setCells w2.heap.size 0 T.toList) g kb bx W ∧ Own bx w ((w2.alloc (.cells zero16 82)).setCells w2.heap.size 0 T.toList) ∧ Bytes ((w2.alloc (.cells zero16 82)).setCells w2.heap.size 0 T.toList) (some ⟨w2.heap.size, 0, none⟩) 16 (tgF W nn a an (cphF W nn p) n) ∧ w.heap.size + 2 ≤ w2.heap.size + 1 ∧ w2.heap.size < ((w2.alloc (.cells zero16 82)).setCells w2.heap.size 0 T.toList).heap.size from ⟨hG3, hK3, hO3, hBT, by have := HXS.out; omega, Blk.lt hT2⟩)
 clear hG2 hba hOs hZ2 hT2 hOA hbs hG3 hK3 hO3 hBT hK2 hO2 HTG HG1 HO1
 go_wp2_with (first
  | (refine wpList_appO rfl (.tmp 39) (.tmp 40) rfl (w.heap.size + 2) (.slice oc n cp) n 16 16 (some ⟨w2.heap.size, 0, none⟩) (cphF W nn p) (tgF W nn a an (cphF W nn p) n) ((w2.alloc (.cells zero16 82)).setCells w2.heap.size 0 T.toList) rfl HX.out.1 rfl (fun e => by cases e) HX.out.2.2.2.1 (by have := HST.out.2.2.2.2.2.2.2.1; omega) (by have := HX.out.2.2.2.2; omega) ?_; refine Hid.out ?_)
  | (refine wpList_store16 rfl (.tmp 11) (.tmp 38) rfl w2.heap.size rfl T zero16 rfl HZ2.out HTC.out HZC.out ?_))
 refine zh ?_
 intro v2 w4 hG4 hg4 ho4
 have hGX := HX.out.1
 have hlt4 := HST.out.1.lt
 have hsz4 := HX.out.2.2.2.2
 have hO4 := own_of_grown hg4
 have hge := own_ge hGX (by omega)
 have hOw := HX.out.2.2.1.two hO4 (by omega)
 have hK4 : KG w4 g kb bx W := HST.out.1.low HX.out.2.1 (hO4.below (by omega) (by have := HX.out.2.2.1.size; exact this))
 have HE := zh (show Grow w4 (w.heap.size + 2) v2 (n + 16) (boxF W nn p n a an) ∧ KG w4 g kb bx W ∧ Own bx w w4 from ⟨hG4, hK4, hOw⟩)
 clear hG4 hg4 ho4 hGX hlt4 hsz4 hO4 hge hOw hK4
 go_wp2_with fail
 refine bodyPost_ret (results_tmp2 rfl _ _ _) rfl ?_
 exact ⟨v2, rfl, HE.out.1, HE.out.2.1, HE.out.2.2⟩
set_option maxRecDepth 512
set_option maxHeartbeats 200000
def Shp (w : World) (g n : Nat) : Prop := w.shape? g = some (5, n)
theorem Shp.lt {w : World} {g n : Nat} (h : Shp w g n) : g < w.heap.size := by
 rcases Nat.lt_or_ge g w.heap.size with h' | h'
 ·exact h'
 ·unfold Shp World.shape? at h; rw [Array.getElem?_eq_none h'] at h; cases h
theorem Shp.later {w w' : World} {g n : Nat} (h : Shp w g n) (hb : Below w.heap.size w w') : Shp w' g n := by
 unfold Shp World.shape?; rw [hb.block g h.lt]; exact h
theorem Shp.own {w w' : World} {g n b : Nat} (h : Shp w g n) (hO : Own b w w') (hn : g ≠ b) : Shp w' g n := by
 unfold Shp World.shape?; rw [hO.block g h.lt hn]; exact h
theorem Shp.blk {w : World} {g : Nat} {C : Array Value} (h : Blk w g C 5) : Shp w g C.size := by
 unfold Shp World.shape?; rw [show w.heap[g]? = _ from h]
theorem heap_freeze (w : World) (p : Addr) (n k : Nat) : (w.freeze p n).heap[k]? = if n = 0 then w.heap[k]? else if p.block = k then (w.heap[k]?).map (fun | .cells c elem (lo, hi) => .cells c elem (if lo == hi then (p.off, p.off + n) else (min lo p.off, max hi (p.off + n))) | o => o) else w.heap[k]? := by
 unfold World.freeze
 by_cases h : n = 0
 ·rw [if_pos h, if_pos h]
 ·rw [if_neg h, if_neg h]
  show (w.heap.modify p.block _)[k]? = _
  rw [Array.getElem?_modify]
  by_cases e : p.block = k
  ·rw [if_pos e, if_pos e]
   cases w.heap[k]? with
   | none => rfl
   | some o => cases o <;> rfl
  ·rw [if_neg e, if_neg e]
theorem cell_freeze (w : World) (p : Addr) (n : Nat) (a : Addr) : (w.freeze p n).cell? a = w.cell? a := by
 unfold World.cell?
 rw [heap_freeze]
 by_cases h : n = 0
 ·rw [if_pos h]
 ·rw [if_neg h]
  by_cases h2 : p.block = a.block
  ·rw [if_pos h2]
   cases w.heap[a.block]? with
   | none => rfl
   | some o => cases o <;> rfl
  ·rw [if_neg h2]
theorem Bytes.frz {w : World} {oa : Option Addr} {n : Nat} {f : Nat → Nat} (h : Bytes w oa n f) (p : Addr) (k : Nat) : Bytes (w.freeze p k) oa n f := fun i hi => by
 obtain ⟨h1, b, off, h2, h3⟩ := h i hi
 exact ⟨h1, b, off, h2, by rw [cell_freeze]; exact h3⟩
theorem Shp.frz {w : World} {g n : Nat} (h : Shp w g n) (p : Addr) (k : Nat) : Shp (w.freeze p k) g n := by
 unfold Shp World.shape? at *
 rw [heap_freeze]
 by_cases h0 : k = 0
 ·rw [if_pos h0]; exact h
 ·rw [if_neg h0]
  by_cases h2 : p.block = g
  ·rw [if_pos h2]
   cases e : w.heap[g]? with
   | none => rw [e] at h; cases h
   | some o => rw [e] at h; cases o <;> first | exact h | cases h
  ·rw [if_neg h2]; exact h
theorem Own.frz (w : World) (g k n : Nat) : Own g w (w.freeze ⟨g, k, none⟩ n) := by
 refine ⟨?_, ?_, ?_, ?_, fun j hj hn => ?_⟩
 ·unfold World.freeze; split <;> rfl
 ·unfold World.freeze; split <;> rfl
 ·unfold World.freeze; split <;> rfl
 ·unfold World.freeze; split <;> simp
 ·rw [heap_freeze]
  by_cases h0 : n = 0
  ·rw [if_pos h0]
  ·rw [if_neg h0, if_neg (fun e => hn e.symm)]
theorem conv_shp (w : World) (g n c m : Nat) (h : Shp w g m) : (convert 24 24 (.slice (some ⟨g, 0, none⟩) n c)).run Tryz.prog w = .ok (.slice (some ⟨g, 0, none⟩) n c) (w.freeze ⟨g, m, none⟩ 1) := by
 have hsh : w.shape? g = some (5, m) := h
 simp [convert, run_underlying Tryz.underlying24, run_underlying Tryz.underlying5, markStringish, hsh]
theorem step_convB {ops : Array Oper} {o : Oper} {a : Act} {w : World} {K : Act → World → Prop} {Q : Exit → Act → World → Prop} {E : Prop} (hw : Region.wanted o (yielded ops a.tmps) = true) (x : Operand) (ho : o.op = .convert 24 24 x) (g n c m : Nat) (hx : a.eval x = .slice (some ⟨g, 0, none⟩) n c) (h : Shp w g m)
  (hk : K (a.put o.dst (.slice (some ⟨g, 0, none⟩) n c)) (w.freeze ⟨g, m, none⟩ 1)) : if Region.wanted o (yielded ops a.tmps) = true then Oper.wp Tryz.prog o a w K Q else E := by
 rw [if_pos hw]
 unfold Oper.wp execOp
 simp only [ho, hx, conv_shp w g n c m h, Sem.run_bind, Result.andThen_ok]
 exact hk
theorem wpList_convB {ops : Array Oper} {rest : List Oper} {o : Oper} {a : Act} {w : World} {Q : Exit → Act → World → Prop} (hgd : o.guard = none) (x : Operand) (ho : o.op = .convert 24 24 x) (g n c m : Nat) (hx : a.eval x = .slice (some ⟨g, 0, none⟩) n c) (h : Shp w g m)
  (hk : wpList Tryz.prog ops Q rest (a.put o.dst (.slice (some ⟨g, 0, none⟩) n c)) (w.freeze ⟨g, m, none⟩ 1)) : wpList Tryz.prog ops Q (o :: rest) a w := by
 refine wpList_plain hgd fun K hK => ?_
 unfold Oper.wp execOp
 simp only [ho, hx, conv_shp w g n c m h, Sem.run_bind, Result.andThen_ok]
 exact hK _ _ hk
set_option maxRecDepth 100000
set_option maxHeartbeats 4000000
def kTl (x : Nat) : Nat → Nat := fun i => if i = 0 then 0 else numB x 4 (i - 1)
def kiF (s : ByteArray) (x : Nat) : Nat → Nat := catF s.size (byteF s) (kTl x)
theorem kTl_lt (x i : Nat) : kTl x i < 256 := by
 unfold kTl; split
 ·decide
 ·exact numB_lt _ _ _
theorem five_bytes {w : World} {x b0 b1 b2 b3 : Nat} (h0 : numB x 4 0 = b0) (h1 : numB x 4 1 = b1) (h2 : numB x 4 2 = b2) (h3 : numB x 4 3 = b3) : Bytes (w.alloc (.cells #[.int .u8 0, .int .u8 (b0 : Nat), .int .u8 (b1 : Nat), .int .u8 (b2 : Nat), .int .u8 (b3 : Nat)] 5)) (some ⟨w.heap.size, 0, none⟩) 5 (kTl x) := fun k hk => by
 subst h0 h1 h2 h3
 have hc := fun j => World.cell?_alloc_mark w #[.int .u8 0, .int .u8 ((numB x 4 0 : Nat) : Int), .int .u8 ((numB x 4 1 : Nat) : Int), .int .u8 ((numB x 4 2 : Nat) : Int), .int .u8 ((numB x 4 3 : Nat) : Int)] 5 (0, 0) j
 rcases (by omega : k = 0 ∨ k = 1 ∨ k = 2 ∨ k = 3 ∨ k = 4) with rfl | rfl | rfl | rfl | rfl
 ·exact ⟨kTl_lt _ _, w.heap.size, 0, rfl, hc 0⟩
 ·exact ⟨kTl_lt _ _, w.heap.size, 0, rfl, hc 1⟩
 ·exact ⟨kTl_lt _ _, w.heap.size, 0, rfl, hc 2⟩
 ·exact ⟨kTl_lt _ _, w.heap.size, 0, rfl, hc 3⟩
 ·exact ⟨kTl_lt _ _, w.heap.size, 0, rfl, hc 4⟩
theorem key_any (oa : Option Addr) (cn : Nat) (K : Nat → Nat) (s : ByteArray) (x : Nat) (w : World) (hb : Bytes w oa 32 K) (hnc : 32 ≤ cn) (hs1 : 1 ≤ s.size) (hs2 : s.size ≤ 32) (hx : x < 4294967296) (hg : GV w) :
    Calls Tryz.prog 23 #[.slice oa 32 cn, .string s, .int .u32 (x : Int)] w fun e w' => ∃ o, e = .returned (.tuple #[.slice o 32 32, .nilIface]) ∧ Bytes w' o 32 (exF 32 K (s.size + 5) (kiF s x)) ∧ Below w.heap.size w w' := by
  have HKB : Hid (∀ w', Below w.heap.size w w' → Bytes w' oa 32 K) := zh fun w' h => hb.later h
  have HS : Hid (1 ≤ s.size ∧ s.size ≤ 32 ∧ 32 ≤ cn) := zh ⟨hs1, hs2, hnc⟩
  have HG := zh hg
  have h4 : ¬ (s.size : Int) < 1 := by omega
  have h5 : ¬ (32 : Int) < (s.size : Int) := by omega
  obtain ⟨b0, e0⟩ := zX (numB x 4 0)
  obtain ⟨b1, e1⟩ := zX (numB x 4 1)
  obtain ⟨b2, e2⟩ := zX (numB x 4 2)
  obtain ⟨b3, e3⟩ := zX (numB x 4 3)
  have v0 := num4 x 0 16777216 (by decide) (by decide)
  have v1 := num4 x 1 65536 (by decide) (by decide)
  have v2 := num4 x 2 256 (by decide) (by decide)
  have v3 := num4 x 3 1 (by decide) (by decide)
  rw [e0] at v0
  rw [e1] at v1
  rw [e2] at v2
  rw [e3] at v3
  rw [show (((1 : Nat) : Int)) = 1 from rfl, Int.ediv_one] at v3
  rw [show (((16777216 : Nat) : Int)) = 16777216 from rfl] at v0
  rw [show (((65536 : Nat) : Int)) = 65536 from rfl] at v1
  rw [show (((256 : Nat) : Int)) = 256 from rfl] at v2
  have v4 : (x : Int) / 16777216 = (b0 : Int) := by rw [← v0]; omega
  have v5 : (b0 : Int) % 256 = (b0 : Int) := by omega
  have x0 : (x : Int) < 4294967296 := by omega
  have x1 : (x : Int) % 4294967296 = (x : Int) := by omega
  have H5 : Hid (∀ w', Bytes (World.alloc w' (.cells #[.int .u8 0, .int .u8 (b0 : Nat), .int .u8 (b1 : Nat), .int .u8 (b2 : Nat), .int .u8 (b3 : Nat)] 5)) (some ⟨w'.heap.size, 0, none⟩) 5 (kTl x)) := zh fun w' => five_bytes e0 e1 e2 e3
  clear hb hnc hs1 hs2 hx hg e0 e1 e2 e3
  go_enter Tryz.func23, Tryz.ntmps23
  go_wp2_with (first
    | (refine wpList_convS rfl (.tmp 23) rfl s w rfl (by have := HS.out; unfold maxLen; omega) ?_; intro cap w1 hcm1 hs1 hb1; have H1 := zh (And.intro hcm1 (And.intro hs1 hb1)); clear hcm1 hs1 hb1)
    | (refine wpList_appS rfl (.tmp 24) (.tmp 36) rfl w.heap.size s.size cap 5 5 ⟨w1.heap.size, 0, none⟩ (byteF s) (kTl x) (w1.alloc (.cells #[.int .u8 0, .int .u8 (b0 : Nat), .int .u8 (b1 : Nat), .int .u8 (b2 : Nat), .int .u8 (b3 : Nat)] 5)) rfl (H1.out.2.1.later (zA)) H1.out.1 rfl (H5.out w1) (by have := HS.out; omega) ?_
       intro o' c' w2 hc2 hB2 hO2
       have H2 : Hid (s.size + 5 ≤ c' ∧ Bytes w2 (some o') (s.size + 5) (kiF s x) ∧ Below w.heap.size w w2) := zh ⟨hc2, hB2, (H1.out.2.2.trans ((zA).mono H1.out.2.2.size)).trans (hO2.below (Nat.le_refl _) (Nat.le_trans H1.out.2.2.size (by simp)))⟩
       clear hc2 hB2 hO2 H1))
  clear v0 v1 v2 v3 v4 v5 x0 x1 H5
  refine (show Calls Tryz.prog 40 #[.slice oa 32 cn, .slice (some o') (s.size + 5) c', .int .i64 32] w2 _ from expand_any oa (some o') 32 cn (s.size + 5) c' K (kiF s x) 32 w2 (HKB.out _ H2.out.2.2) HS.out.2.2 (fun e => by obtain ⟨_, b, off, e2, _⟩ := (HKB.out _ (Below.refl _ w)) 0 (by decide); rw [e] at e2; cases e2) (by decide) H2.out.2.1 H2.out.1 (by have := HS.out; omega) (by decide) (HG.out.later H2.out.2.2)).mono ?_
  rintro e w3 ⟨o, rfl, hB3, hn3, hb3⟩
  have H3 : Hid (Bytes w3 o 32 (exF 32 K (s.size + 5) (kiF s x)) ∧ Below w.heap.size w w3) := zh ⟨hB3, H2.out.2.2.trans (hb3.mono H2.out.2.2.size)⟩
  clear hB3 hn3 hb3 H2
  go_wp2_with fail
  go_ret2
  exact ⟨o, rfl, H3.out.1, H3.out.2⟩
theorem nb_info : (Tryz.prog.info? 5).map (fun i => (i.zero, i.size, i.bytes)) = some (some (.int .u8 0), 1, 1) := by kernel_rfl
theorem one_news (w : World) (x : Value) (t : TypeId) : ∀ j u, [x][j]? = some u → (w.alloc (.cells #[x] t)).cell? ((⟨w.heap.size, 0, none⟩ : Addr).add j) = some u := by
 intro j u h
 match j, h with
 | 0, h => simp at h; subst h; simp [Addr.add]
theorem one_cell (z : Int) : ∀ u ∈ [Value.int .u8 z], u.oneCell' = true := by
 intro u h; simp at h; subst h; rfl
theorem own_block {w : World} {base : Nat} {e : TypeId} {size : Nat} {v : Value} {n : Nat} {xs : List Value} (h : w.ownsRow base e size v n xs) : ∀ k, v.ownBlock = some k → base ≤ k := by
 intro k hk
 rcases h.2 with ⟨rfl, _⟩ | ⟨g, cap, cur, rfl, hb, _⟩
 ·simp [Value.ownBlock] at hk
 ·simp [Value.ownBlock] at hk; omega
def nbL (t n : Int) : List Value := [.int .u8 (t / 16777216), .int .u8 (t / 65536 % 256), .int .u8 (t / 256 % 256), .int .u8 (t % 256), .int .u8 (n / 72057594037927936), .int .u8 (n / 281474976710656 % 256), .int .u8 (n / 1099511627776 % 256), .int .u8 (n / 4294967296 % 256), .int .u8 (n / 16777216 % 256), .int .u8 (n / 65536 % 256), .int .u8 (n / 256 % 256), .int .u8 (n % 256)]
def NB (t n : Int) (w : World) (e : Ending) (w' : World) : Prop := ∃ v, e = .returned v ∧ w'.ownsRow w.heap.size 5 1 v 12 (nbL t n) ∧ Below w.heap.size w w'
theorem nb_any (t n : Int) (w : World) (ht : 0 ≤ t ∧ t ≤ 4294967295) (hn : 0 ≤ n ∧ n ≤ 18446744073709551615) :
  Calls Tryz.prog 20 #[.int .u32 t, .int .u64 n] w (NB t n w) := by
 obtain ⟨i0, hi, hz0, hz1, hz2⟩ := info_parts nb_info
 obtain ⟨t0, t1⟩ := ht
 obtain ⟨n0, n1⟩ := hn
 go_enter Tryz.func20, Tryz.ntmps20
 go_wp2_with (at_make; refine wpList_make_own _ rfl _ _ 24 rfl w.heap.size 5 i0 (.int .u8 0) 1 Tryz.underlying24 hi hz0 hz1 .i64 .i64 12 12 rfl rfl rfl ?c1 ?c2 (Nat.le_refl _) ?_)
 case c1 => omega
 case c2 => unfold maxLen; omega
 intro w0 hown0 hg0
 have hs0 := hg0.size
 have hbel0 := (Below.refl w.heap.size w).grown hg0 (Nat.le_refl _) (fun _ h => by cases h)
 go_wp2_with fail
 refine wp_loop_rounds 5 ?_
 rw [rounds_succ]
 go_wp2_with (at_builtin; refine wpList_append_own _ rfl (.tmp 13) (.tmp 18) 24 rfl w.heap.size 5 i0 (.int .u8 0) 1 1 Tryz.underlying24 hi hz0 hz1 hz2 rfl (by decide) _ 0 _ rfl (hown0.alloc _) ⟨w0.heap.size, 0, none⟩ 1 1 [.int .u8 (t / 16777216)] rfl rfl ?d0a ?d0b ?d0c ?d0d ?d0e ?_)
 case d0a => exact one_news _ _ _
 case d0b => exact one_cell _
 case d0c => unfold maxLen; omega
 case d0d => omega
 case d0e => simp; omega
 intro v1 w1 hown1 hg1 _
 have hs1 := hg1.size
 simp at hs1
 have hbel1 := (hbel0.alloc (by omega) (.cells #[.int .u8 (t / 16777216)] 5)).grown hg1 (by simp; omega) (own_block hown0)
 go_wp2_with fail
 rw [rounds_succ]
 go_wp2_with (at_builtin; refine wpList_append_own _ rfl (.tmp 13) (.tmp 18) 24 rfl w.heap.size 5 i0 (.int .u8 0) 1 1 Tryz.underlying24 hi hz0 hz1 hz2 rfl (by decide) _ 1 _ rfl (hown1.alloc _) ⟨w1.heap.size, 0, none⟩ 1 1 [.int .u8 (t / 65536 % 256)] rfl rfl ?d1a ?d1b ?d1c ?d1d ?d1e ?_)
 case d1a => exact one_news _ _ _
 case d1b => exact one_cell _
 case d1c => unfold maxLen; omega
 case d1d => omega
 case d1e => simp; omega
 intro v2 w2 hown2 hg2 _
 have hs2 := hg2.size
 simp at hs2
 have hbel2 := (hbel1.alloc (by omega) (.cells #[.int .u8 (t / 65536 % 256)] 5)).grown hg2 (by simp; omega) (own_block hown1)
 go_wp2_with fail
 rw [rounds_succ]
 go_wp2_with (at_builtin; refine wpList_append_own _ rfl (.tmp 13) (.tmp 18) 24 rfl w.heap.size 5 i0 (.int .u8 0) 1 1 Tryz.underlying24 hi hz0 hz1 hz2 rfl (by decide) _ 2 _ rfl (hown2.alloc _) ⟨w2.heap.size, 0, none⟩ 1 1 [.int .u8 (t / 256 % 256)] rfl rfl ?d2a ?d2b ?d2c ?d2d ?d2e ?_)
 case d2a => exact one_news _ _ _
 case d2b => exact one_cell _
 case d2c => unfold maxLen; omega
 case d2d => omega
 case d2e => simp; omega
 intro v3 w3 hown3 hg3 _
 have hs3 := hg3.size
 simp at hs3
 have hbel3 := (hbel2.alloc (by omega) (.cells #[.int .u8 (t / 256 % 256)] 5)).grown hg3 (by simp; omega) (own_block hown2)
 go_wp2_with fail
 rw [rounds_succ]
 go_wp2_with (at_builtin; refine wpList_append_own _ rfl (.tmp 13) (.tmp 18) 24 rfl w.heap.size 5 i0 (.int .u8 0) 1 1 Tryz.underlying24 hi hz0 hz1 hz2 rfl (by decide) _ 3 _ rfl (hown3.alloc _) ⟨w3.heap.size, 0, none⟩ 1 1 [.int .u8 (t % 256)] rfl rfl ?d3a ?d3b ?d3c ?d3d ?d3e ?_)
 case d3a => exact one_news _ _ _
 case d3b => exact one_cell _
 case d3c => unfold maxLen; omega
 case d3d => omega
 case d3e => simp; omega
 intro v4 w4 hown4 hg4 _
 have hs4 := hg4.size
 simp at hs4
 have hbel4 := (hbel3.alloc (by omega) (.cells #[.int .u8 (t % 256)] 5)).grown hg4 (by simp; omega) (own_block hown3)
 go_wp2_with fail
 rw [rounds_succ]
 go_wp2_with fail
 refine wp_loop_rounds 9 ?_
 rw [rounds_succ]
 go_wp2_with (at_builtin; refine wpList_append_own _ rfl (.tmp 24) (.tmp 29) 24 rfl w.heap.size 5 i0 (.int .u8 0) 1 1 Tryz.underlying24 hi hz0 hz1 hz2 rfl (by decide) _ 4 _ rfl (hown4.alloc _) ⟨w4.heap.size, 0, none⟩ 1 1 [.int .u8 (n / 72057594037927936)] rfl rfl ?d4a ?d4b ?d4c ?d4d ?d4e ?_)
 case d4a => exact one_news _ _ _
 case d4b => exact one_cell _
 case d4c => unfold maxLen; omega
 case d4d => omega
 case d4e => simp; omega
 intro v5 w5 hown5 hg5 _
 have hs5 := hg5.size
 simp at hs5
 have hbel5 := (hbel4.alloc (by omega) (.cells #[.int .u8 (n / 72057594037927936)] 5)).grown hg5 (by simp; omega) (own_block hown4)
 go_wp2_with fail
 rw [rounds_succ]
 go_wp2_with (at_builtin; refine wpList_append_own _ rfl (.tmp 24) (.tmp 29) 24 rfl w.heap.size 5 i0 (.int .u8 0) 1 1 Tryz.underlying24 hi hz0 hz1 hz2 rfl (by decide) _ 5 _ rfl (hown5.alloc _) ⟨w5.heap.size, 0, none⟩ 1 1 [.int .u8 (n / 281474976710656 % 256)] rfl rfl ?d5a ?d5b ?d5c ?d5d ?d5e ?_)
 case d5a => exact one_news _ _ _
 case d5b => exact one_cell _
 case d5c => unfold maxLen; omega
 case d5d => omega
 case d5e => simp; omega
 intro v6 w6 hown6 hg6 _
 have hs6 := hg6.size
 simp at hs6
 have hbel6 := (hbel5.alloc (by omega) (.cells #[.int .u8 (n / 281474976710656 % 256)] 5)).grown hg6 (by simp; omega) (own_block hown5)
 go_wp2_with fail
 rw [rounds_succ]
 go_wp2_with (at_builtin; refine wpList_append_own _ rfl (.tmp 24) (.tmp 29) 24 rfl w.heap.size 5 i0 (.int .u8 0) 1 1 Tryz.underlying24 hi hz0 hz1 hz2 rfl (by decide) _ 6 _ rfl (hown6.alloc _) ⟨w6.heap.size, 0, none⟩ 1 1 [.int .u8 (n / 1099511627776 % 256)] rfl rfl ?d6a ?d6b ?d6c ?d6d ?d6e ?_)
 case d6a => exact one_news _ _ _
 case d6b => exact one_cell _
 case d6c => unfold maxLen; omega
 case d6d => omega
 case d6e => simp; omega
 intro v7 w7 hown7 hg7 _
 have hs7 := hg7.size
 simp at hs7
 have hbel7 := (hbel6.alloc (by omega) (.cells #[.int .u8 (n / 1099511627776 % 256)] 5)).grown hg7 (by simp; omega) (own_block hown6)
 go_wp2_with fail
 rw [rounds_succ]
 go_wp2_with (at_builtin; refine wpList_append_own _ rfl (.tmp 24) (.tmp 29) 24 rfl w.heap.size 5 i0 (.int .u8 0) 1 1 Tryz.underlying24 hi hz0 hz1 hz2 rfl (by decide) _ 7 _ rfl (hown7.alloc _) ⟨w7.heap.size, 0, none⟩ 1 1 [.int .u8 (n / 4294967296 % 256)] rfl rfl ?d7a ?d7b ?d7c ?d7d ?d7e ?_)
 case d7a => exact one_news _ _ _
 case d7b => exact one_cell _
 case d7c => unfold maxLen; omega
 case d7d => omega
 case d7e => simp; omega
 intro v8 w8 hown8 hg8 _
 have hs8 := hg8.size
 simp at hs8
 have hbel8 := (hbel7.alloc (by omega) (.cells #[.int .u8 (n / 4294967296 % 256)] 5)).grown hg8 (by simp; omega) (own_block hown7)
 go_wp2_with fail
 rw [rounds_succ]
 go_wp2_with (at_builtin; refine wpList_append_own _ rfl (.tmp 24) (.tmp 29) 24 rfl w.heap.size 5 i0 (.int .u8 0) 1 1 Tryz.underlying24 hi hz0 hz1 hz2 rfl (by decide) _ 8 _ rfl (hown8.alloc _) ⟨w8.heap.size, 0, none⟩ 1 1 [.int .u8 (n / 16777216 % 256)] rfl rfl ?d8a ?d8b ?d8c ?d8d ?d8e ?_)
 case d8a => exact one_news _ _ _
 case d8b => exact one_cell _
 case d8c => unfold maxLen; omega
 case d8d => omega
 case d8e => simp; omega
 intro v9 w9 hown9 hg9 _
 have hs9 := hg9.size
 simp at hs9
 have hbel9 := (hbel8.alloc (by omega) (.cells #[.int .u8 (n / 16777216 % 256)] 5)).grown hg9 (by simp; omega) (own_block hown8)
 go_wp2_with fail
 rw [rounds_succ]
 go_wp2_with (at_builtin; refine wpList_append_own _ rfl (.tmp 24) (.tmp 29) 24 rfl w.heap.size 5 i0 (.int .u8 0) 1 1 Tryz.underlying24 hi hz0 hz1 hz2 rfl (by decide) _ 9 _ rfl (hown9.alloc _) ⟨w9.heap.size, 0, none⟩ 1 1 [.int .u8 (n / 65536 % 256)] rfl rfl ?d9a ?d9b ?d9c ?d9d ?d9e ?_)
 case d9a => exact one_news _ _ _
 case d9b => exact one_cell _
 case d9c => unfold maxLen; omega
 case d9d => omega
 case d9e => simp; omega
 intro v10 w10 hown10 hg10 _
 have hs10 := hg10.size
 simp at hs10
 have hbel10 := (hbel9.alloc (by omega) (.cells #[.int .u8 (n / 65536 % 256)] 5)).grown hg10 (by simp; omega) (own_block hown9)
 go_wp2_with fail
 rw [rounds_succ]
 go_wp2_with (at_builtin; refine wpList_append_own _ rfl (.tmp 24) (.tmp 29) 24 rfl w.heap.size 5 i0 (.int .u8 0) 1 1 Tryz.underlying24 hi hz0 hz1 hz2 rfl (by decide) _ 10 _ rfl (hown10.alloc _) ⟨w10.heap.size, 0, none⟩ 1 1 [.int .u8 (n / 256 % 256)] rfl rfl ?d10a ?d10b ?d10c ?d10d ?d10e ?_)
 case d10a => exact one_news _ _ _
 case d10b => exact one_cell _
 case d10c => unfold maxLen; omega
 case d10d => omega
 case d10e => simp; omega
 intro v11 w11 hown11 hg11 _
 have hs11 := hg11.size
 simp at hs11
 have hbel11 := (hbel10.alloc (by omega) (.cells #[.int .u8 (n / 256 % 256)] 5)).grown hg11 (by simp; omega) (own_block hown10)
 go_wp2_with fail
 rw [rounds_succ]
 go_wp2_with (at_builtin; refine wpList_append_own _ rfl (.tmp 24) (.tmp 29) 24 rfl w.heap.size 5 i0 (.int .u8 0) 1 1 Tryz.underlying24 hi hz0 hz1 hz2 rfl (by decide) _ 11 _ rfl (hown11.alloc _) ⟨w11.heap.size, 0, none⟩ 1 1 [.int .u8 (n % 256)] rfl rfl ?d11a ?d11b ?d11c ?d11d ?d11e ?_)
 case d11a => exact one_news _ _ _
 case d11b => exact one_cell _
 case d11c => unfold maxLen; omega
 case d11d => omega
 case d11e => simp; omega
 intro v12 w12 hown12 hg12 _
 have hs12 := hg12.size
 simp at hs12
 have hbel12 := (hbel11.alloc (by omega) (.cells #[.int .u8 (n % 256)] 5)).grown hg12 (by simp; omega) (own_block hown11)
 go_wp2_with fail
 rw [rounds_succ]
 go_wp2_with fail
 go_ret
 exact ⟨v12, rfl, hown12, hbel12⟩
def nbF (t n : Nat) (i : Nat) : Nat := [t / 16777216, t / 65536 % 256, t / 256 % 256, t % 256, n / 72057594037927936, n / 281474976710656 % 256, n / 1099511627776 % 256, n / 4294967296 % 256, n / 16777216 % 256, n / 65536 % 256, n / 256 % 256, n % 256].getD i 0
theorem nbL_row (t n : Nat) : nbL t n = rowC 12 (nbF t n) := rfl
theorem nbF_lt {t n : Nat} (ht : t < 4294967296) (hn : n < 18446744073709551616) : ∀ i, i < 12 → nbF t n i < 256 := fun i hi => by
 match i, hi with
 | 0, _ => show t / 16777216 < 256; omega
 | 1, _ => show t / 65536 % 256 < 256; omega
 | 2, _ => show t / 256 % 256 < 256; omega
 | 3, _ => show t % 256 < 256; omega
 | 4, _ => show n / 72057594037927936 < 256; omega
 | 5, _ => show n / 281474976710656 % 256 < 256; omega
 | 6, _ => show n / 1099511627776 % 256 < 256; omega
 | 7, _ => show n / 4294967296 % 256 < 256; omega
 | 8, _ => show n / 16777216 % 256 < 256; omega
 | 9, _ => show n / 65536 % 256 < 256; omega
 | 10, _ => show n / 256 % 256 < 256; omega
 | 11, _ => show n % 256 < 256; omega
theorem nb_grow {t n : Nat} (w : World) (ht : t < 4294967296) (hn : n < 18446744073709551616) :
  Calls Tryz.prog 20 #[.int .u32 t, .int .u64 n] w fun e w' => ∃ v, e = .returned v ∧ Grow w' w.heap.size v 12 (nbF t n) ∧ Below w.heap.size w w' :=
 (nb_any t n w (by omega) (by omega)).mono fun e w' ⟨v, he, hown, hb⟩ => ⟨v, he, by rw [nbL_row] at hown; exact hown, hb⟩
set_option maxHeartbeats 2000000
def ekW (K : Nat → Nat) (s : ByteArray) (x : Nat) : Nat → Nat := exK (exF 32 K (s.size + 5) (kiF s x)) 60
theorem sealer_any (oa : Option Addr) (cn : Nat) (K : Nat → Nat) (s : ByteArray) (x : Nat) (w : World) (hb : Bytes w oa 32 K) (hnc : 32 ≤ cn) (hs1 : 1 ≤ s.size) (hs2 : s.size ≤ 32) (hx : x < 4294967296) (hg : GV w) :
  Calls Tryz.prog 18 #[.slice oa 32 cn, .string s, .int .u32 (x : Int)] w fun e w' => ∃ g kb bx, e = .returned (.tuple #[.pointer (some ⟨g, 0, none⟩), .nilIface]) ∧ GS w (ekW K s x) g kb bx w' := by
 have HC := zh (key_any oa cn K s x w hb hnc hs1 hs2 hx hg)
 clear hb hnc hs1 hs2 hx hg
 go_enter Tryz.func18, Tryz.ntmps18
 go_wp2_with fail
 refine HC.out.mono ?_
 rintro e w1 ⟨o, rfl, hB, hb1⟩
 have HB := zh hB
 have HB1 := zh hb1
 clear hB hb1 HC
 go_wp2_with fail
 refine (gnew_any _ o 32 w1 HB.out).mono ?_
 rintro e w2 ⟨g, kb, bx, rfl, hK, hb2, h1, h2, h3⟩
 have HR : Hid (GS w (ekW K s x) g kb bx w2) := zh ⟨hK, HB1.out.trans (hb2.mono HB1.out.size), Nat.le_trans HB1.out.size h1, Nat.le_trans HB1.out.size h2, Nat.le_trans HB1.out.size h3⟩
 clear hK hb2 h1 h2 h3
 go_wp2_with fail
 refine bodyPost_ret (v := .tuple #[.pointer (some ⟨g, 0, none⟩), .nilIface]) ?_ rfl ⟨g, kb, bx, rfl, HR.out⟩
 exact results_tmp2 (t := 6) (u := 7) Tryz.results18 _ _ _
def beE : Nat → Nat := fun i => [99, 111, 114, 101, 47, 101, 110, 118, 101, 108, 111, 112, 101].getD i 0
def sE : ByteArray := ⟨#[101, 110, 118, 101, 108, 111, 112, 101]⟩
def ebF (K R : Nat → Nat) (x : Nat) : Nat → Nat := boxF (ekW K sE x) (nbF x 0) R 32 beE 13
theorem bs_be (w : World) : Blk (w.alloc (.cells #[.int .u8 99, .int .u8 111, .int .u8 114, .int .u8 101, .int .u8 47, .int .u8 101, .int .u8 110, .int .u8 118, .int .u8 101, .int .u8 108, .int .u8 111, .int .u8 112, .int .u8 101] 5)) w.heap.size (rowC 13 beE).toArray 5 := Blk.new w _ _
theorem be_bytes {w : World} {g n : Nat} {f : Nat → Nat} {T : TypeId} (h : Blk w g (rowC n f).toArray T) (hf : ∀ i, i < n → f i < 256) : Bytes w (some ⟨g, 0, none⟩) n f := fun k hk => ⟨hf k hk, g, 0, rfl, by
 rw [Nat.zero_add, Blk.cell h, List.getElem?_toArray]; exact rowC_get f hk⟩
theorem beE_lt : ∀ i, i < 13 → beE i < 256 := fun i hi => by
 have : ∀ k : Fin 13, beE k.1 < 256 := by decide
 exact this ⟨i, hi⟩
theorem eseal_any (oa ob : Option Addr) (cn cm x : Nat) (K R : Nat → Nat) (w : World) (hb : Bytes w oa 32 K) (hr : Bytes w ob 32 R) (hnc : 32 ≤ cn) (hmc : 32 ≤ cm) (hmm : cm ≤ maxLen) (hx : x < 4294967296) (hg : GV w) :
  Calls Tryz.prog 5 #[.slice oa 32 cn, .slice ob 32 cm, .int .u32 (x : Int)] w fun e w' => ∃ v B, e = .returned (.tuple #[v, .nilIface]) ∧ Grow w' B v 48 (ebF K R x) ∧ w.heap.size ≤ B ∧ Below w.heap.size w w' := by
 have HC := zh (sealer_any oa cn K sE x w hb hnc (by decide) (by decide) hx hg)
 have HR := zh hr
 have HM := zh (And.intro hmc (And.intro hmm hx))
 have HBL : Hid (∀ y, ob = some y → y.block < w.heap.size) := zh fun y hy => hr.lt y hy (by decide)
 clear hb hr hnc hmc hmm hx hg
 go_enter Tryz.func5, Tryz.ntmps5
 go_wp2_with fail
 refine HC.out.mono ?_
 rintro e w1 ⟨g, kb, bx, rfl, hGS⟩
 have HGS := zh hGS
 clear hGS HC
 go_wp2_with fail
 refine (nb_grow w1 HM.out.2.2 (by decide : (0 : Nat) < 18446744073709551616)).mono ?_
 rintro e w2 ⟨vn, rfl, hN, hb2⟩
 obtain ⟨gn, cp, rfl, hgn, hNB, hcp, hno⟩ := hN.someN (by decide) (fun i hi => nbF_lt HM.out.2.2 (by decide) i hi)
 have HN := zh (And.intro hNB hb2)
 clear hN hb2 hNB hcp hno
 obtain ⟨w3, hw3⟩ := zX (w2.alloc (.cells #[.int .u8 99, .int .u8 111, .int .u8 114, .int .u8 101, .int .u8 47, .int .u8 101, .int .u8 110, .int .u8 118, .int .u8 101, .int .u8 108, .int .u8 111, .int .u8 112, .int .u8 101] 5))
 obtain ⟨g3, hg3⟩ := zX w2.heap.size
 obtain ⟨w4, hw4⟩ := zX (w3.freeze ⟨g3, 13, none⟩ 1)
 have hB3 : Blk w3 g3 (rowC 13 beE).toArray 5 := by rw [← hw3, ← hg3]; exact bs_be w2
 have HSH : Hid (Shp w3 g3 13) := zh (Shp.blk hB3)
 have HA : Hid (Bytes w4 (some ⟨g3, 0, none⟩) 13 beE) := zh (by rw [← hw4]; exact (be_bytes hB3 beE_lt).frz _ _)
 have hb23 : Below w2.heap.size w2 w3 := by rw [← hw3]; exact zA
 have hb24 : Below w2.heap.size w2 w4 := hb23.trans (by rw [← hw4]; exact (Own.frz _ _ _ _).below (Nat.le_of_eq hg3) hb23.size)
 have HNN : Hid (Bytes w4 (some ⟨gn, 0, none⟩) 12 (nbF x 0)) := zh (HN.out.1.later hb24)
 have HK4 : Hid (KG w4 g kb bx (ekW K sE x)) := zh ((HGS.out.1.below HN.out.2).below hb24)
 have hs1 := HGS.out.2.1.size
 have hs2 := HN.out.2.size
 have hlt := HGS.out.1.lt
 have HB4 : Hid (Below w.heap.size w w4) := zh ((HGS.out.2.1.trans (HN.out.2.mono hs1)).trans (hb24.mono (Nat.le_trans hs1 hs2)))
 have HNE : Hid (gn ≠ bx ∧ g3 ≠ bx ∧ w.heap.size ≤ bx) := zh ⟨by omega, by omega, HGS.out.2.2.1⟩
 clear hB3 hb23 hb24 hs1 hs2 hlt hgn
 go_wp2_with (first | (refine wpList_convB rfl (.tmp 32) rfl g3 13 13 13 rfl HSH.out ?_; rw [hw4]))
 refine (seal_any g kb bx (ekW K sE x) (nbF x 0) R beE 32 13 (some ⟨gn, 0, none⟩) ob (some ⟨g3, 0, none⟩) cp cm 13 w4 HK4.out HNN.out (fun y hy => by cases hy; exact HNE.out.1) (HR.out.later HB4.out) (fun y hy _ => by have h1 := HBL.out y hy; have h2 := HNE.out.2.2; omega) HA.out (fun y hy _ => by cases hy; exact HNE.out.2.1) HM.out.1 HM.out.2.1 (Nat.le_refl _) (by unfold maxLen; omega) (by decide) (by decide)).mono ?_
 rintro e w5 ⟨v, rfl, hG, _, hO⟩
 have HG5 := zh hG
 have HB5 : Hid (Below w.heap.size w w5) := zh (HB4.out.trans (hO.below HNE.out.2.2 HB4.out.size))
 clear hG hO
 go_wp2_with fail
 refine bodyPost_ret (v := .tuple #[v, .nilIface]) ?_ rfl ⟨v, _, rfl, HG5.out, Nat.le_trans HB4.out.size (Nat.le_add_right _ _), HB5.out⟩
 exact results_tmp2 (t := 6) (u := 7) Tryz.results5 _ _ _
def EOpen (K Q : Nat → Nat) (x : Nat) (w : World) (e : Ending) (w' : World) : Prop := Below w.heap.size w w' ∧
 ((eqF (tgF (ekW K sE x) (nbF x 0) beE 13 Q 32) (fun i => Q (32 + i)) = true ∧ ∃ v B, e = .returned (.tuple #[v, .nilIface]) ∧ Grow w' B v 32 (cphF (ekW K sE x) (nbF x 0) Q) ∧ w.heap.size ≤ B) ∨
  (eqF (tgF (ekW K sE x) (nbF x 0) beE 13 Q 32) (fun i => Q (32 + i)) = false ∧ e = .returned (.tuple #[.slice none 0 0, .iface 53 (.int .i64 13)])))
theorem eopen_any (oa : Option Addr) (bo oo cn cm x : Nat) (K Q : Nat → Nat) (w : World) (hb : Bytes w oa 32 K) (hr : Bytes w (some ⟨bo, oo, none⟩) 48 Q) (hnc : 32 ≤ cn) (hmc : 48 ≤ cm) (hmm : cm ≤ maxLen) (hx : x < 4294967296) (hg : GV w) :
  Calls Tryz.prog 6 #[.slice oa 32 cn, .slice (some ⟨bo, oo, none⟩) 48 cm, .int .u32 (x : Int)] w (EOpen K Q x w) := by
 have HC := zh (sealer_any oa cn K sE x w hb hnc (by decide) (by decide) hx hg)
 have HR := zh hr
 have HM := zh (And.intro hmc (And.intro hmm hx))
 have HBL : Hid (bo < w.heap.size) := zh (hr.lt _ rfl (by decide))
 clear hb hr hnc hmc hmm hx hg
 go_enter Tryz.func6, Tryz.ntmps6
 go_wp2_with fail
 refine HC.out.mono ?_
 rintro e w1 ⟨g, kb, bx, rfl, hGS⟩
 have HGS := zh hGS
 clear hGS HC
 go_wp2_with fail
 refine (nb_grow w1 HM.out.2.2 (by decide : (0 : Nat) < 18446744073709551616)).mono ?_
 rintro e w2 ⟨vn, rfl, hN, hb2⟩
 obtain ⟨gn, cp, rfl, hgn, hNB, hcp, hno⟩ := hN.someN (by decide) (fun i hi => nbF_lt HM.out.2.2 (by decide) i hi)
 have HN := zh (And.intro hNB hb2)
 clear hN hb2 hNB hcp hno
 obtain ⟨w3, hw3⟩ := zX (w2.alloc (.cells #[.int .u8 99, .int .u8 111, .int .u8 114, .int .u8 101, .int .u8 47, .int .u8 101, .int .u8 110, .int .u8 118, .int .u8 101, .int .u8 108, .int .u8 111, .int .u8 112, .int .u8 101] 5))
 obtain ⟨g3, hg3⟩ := zX w2.heap.size
 obtain ⟨w4, hw4⟩ := zX (w3.freeze ⟨g3, 13, none⟩ 1)
 have hB3 : Blk w3 g3 (rowC 13 beE).toArray 5 := by rw [← hw3, ← hg3]; exact bs_be w2
 have HSH : Hid (Shp w3 g3 13) := zh (Shp.blk hB3)
 have HA : Hid (Bytes w4 (some ⟨g3, 0, none⟩) 13 beE) := zh (by rw [← hw4]; exact (be_bytes hB3 beE_lt).frz _ _)
 have hb23 : Below w2.heap.size w2 w3 := by rw [← hw3]; exact zA
 have hb24 : Below w2.heap.size w2 w4 := hb23.trans (by rw [← hw4]; exact (Own.frz _ _ _ _).below (Nat.le_of_eq hg3) hb23.size)
 have HNN : Hid (Bytes w4 (some ⟨gn, 0, none⟩) 12 (nbF x 0)) := zh (HN.out.1.later hb24)
 have HK4 : Hid (KG w4 g kb bx (ekW K sE x)) := zh ((HGS.out.1.below HN.out.2).below hb24)
 have hs1 := HGS.out.2.1.size
 have hs2 := HN.out.2.size
 have hlt := HGS.out.1.lt
 have HB4 : Hid (Below w.heap.size w w4) := zh ((HGS.out.2.1.trans (HN.out.2.mono hs1)).trans (hb24.mono (Nat.le_trans hs1 hs2)))
 have HNE : Hid (gn ≠ bx ∧ g3 ≠ bx ∧ w.heap.size ≤ bx) := zh ⟨by omega, by omega, HGS.out.2.2.1⟩
 clear hB3 hb23 hb24 hs1 hs2 hlt hgn
 go_wp2_with (first | (refine wpList_convB rfl (.tmp 33) rfl g3 13 13 13 rfl HSH.out ?_; rw [hw4]))
 refine (open_any g kb bx (ekW K sE x) (nbF x 0) Q beE 32 13 bo oo (some ⟨gn, 0, none⟩) (some ⟨g3, 0, none⟩) cp cm 13 w4 HK4.out HNN.out (fun y hy => by cases hy; exact HNE.out.1) (HR.out.later HB4.out) (by have h1 := HBL.out; have h2 := HNE.out.2.2; omega) HA.out HM.out.1 HM.out.2.1 (Nat.le_refl _) (by unfold maxLen; omega) (by decide) (by decide)).mono ?_
 rintro e w5 ⟨_, hO, ⟨hq, v, B, rfl, hG, hB⟩ | ⟨hq, rfl⟩⟩
 ·have HG5 := zh hG
  have HB5 : Hid (Below w.heap.size w w5) := zh (HB4.out.trans (hO.below HNE.out.2.2 HB4.out.size))
  have HQ := zh hq
  have HBB := zh (Nat.le_trans HB4.out.size hB)
  clear hG hO hq hB
  go_wp2_with fail
  refine bodyPost_ret (v := .tuple #[v, .nilIface]) ?_ rfl ⟨HB5.out, .inl ⟨HQ.out, v, B, rfl, HG5.out, HBB.out⟩⟩
  exact results_tmp2 (t := 6) (u := 7) Tryz.results6 _ _ _
 ·have HB5 : Hid (Below w.heap.size w w5) := zh (HB4.out.trans (hO.below HNE.out.2.2 HB4.out.size))
  have HQ := zh hq
  clear hO hq
  go_wp2_with fail
  refine bodyPost_ret (v := .tuple #[.slice none 0 0, .iface 53 (.int .i64 13)]) ?_ rfl ⟨HB5.out, .inr ⟨HQ.out, rfl⟩⟩
  exact results_tmp2 (t := 6) (u := 7) Tryz.results6 _ _ _
set_option maxHeartbeats 4000000
def beR : Nat → Nat := fun i => [99, 111, 114, 101, 47, 114, 105, 110, 103].getD i 0
def sR : ByteArray := ⟨#[114, 105, 110, 103]⟩
def sN : ByteArray := ⟨#[114, 105, 110, 103, 45, 110, 111, 110, 99, 101]⟩
theorem beR_lt : ∀ i, i < 9 → beR i < 256 := fun i hi => by
 have : ∀ k : Fin 9, beR k.1 < 256 := by decide
 exact this ⟨i, hi⟩
theorem bs_br (w : World) : Blk (w.alloc (.cells #[.int .u8 99, .int .u8 111, .int .u8 114, .int .u8 101, .int .u8 47, .int .u8 114, .int .u8 105, .int .u8 110, .int .u8 103] 5)) w.heap.size (rowC 9 beR).toArray 5 := Blk.new w _ _
def rnF (K : Nat → Nat) (m : Nat) (G : Nat → Nat) : Nat → Nat := hmN 32 (exF 32 K (sN.size + 5) (kiF sN 0)) m G
def rbF (K : Nat → Nat) (m : Nat) (G : Nat → Nat) : Nat → Nat := catF 12 (rnF K m G) (boxF (ekW K sR 0) (rnF K m G) G m beR 9)
theorem wpList_fullB {ops : Array Oper} {rest : List Oper} {o : Oper} {a : Act} {Q : Exit → Act → World → Prop} (hgd : o.guard = none) (s x : Operand)
  (ho : o.op = .call { callee := .builtin .append, args := #[s, x], argTypes := #[24, 24] })
  (b off n m cp : Nat) (ad : Addr) (f g : Nat → Nat) (W : World) (hs : a.eval s = .slice (some ⟨b, off, none⟩) n n) (hF : Bytes W (some ⟨b, off, none⟩) n f) (hx : a.eval x = .slice (some ad) m cp)
  (hB : Bytes W (some ad) m g) (hm : 0 < m) (hn : n + m < 100000000000000)
  (h : ∀ v' w', Grow w' W.heap.size v' (n + m) (catF n f g) → Below W.heap.size W w' → wpList Tryz.prog ops Q rest (a.put o.dst v') w') :
  wpList Tryz.prog ops Q (o :: rest) a W := by
 obtain ⟨i0, hi, hz0, hz1, hz2⟩ := info_parts info_u8
 obtain ⟨v', w', hr, hown, hg⟩ := run_append_arg_grows (P := Tryz.prog) W 24 o.type 5 i0 (.int .u8 0) 1 1 Tryz.underlying24 hi hz0 hz1 hz2 rfl (by decide) ⟨b, off, none⟩ n n (rowC n f) (by rw [rowC_len, Nat.mul_one]) hF.newsA ad m cp (rowC m g) (by rw [rowC_len, Nat.mul_one]) hB.newsA (by omega) (by unfold maxLen; omega) (by omega)
 refine wpList_plain hgd fun K hK => ?_
 unfold Oper.wp execOp
 simp only [ho, resolve, invoke, builtin, Sem.run_bind, Sem.run_pure, Result.andThen_ok, List.map_toArray, List.map_cons, List.map_nil, hs, hx, hr]
 exact hK _ _ (h v' w' (by unfold Grow; rw [rowC_cat]; exact hown) ((Below.refl W.heap.size W).grown hg (Nat.le_refl _) (fun q hq => by cases hq)))
theorem enc_lt {n : Nat} {S : Nat → Nat → Nat} (hn : n < 256) (hS : ∀ i j, i < n → j < 32 → S i j < 256) : ∀ i, i < 3 + 32 * n → encF n S i < 256 := fun i hi => by
 unfold encF
 by_cases e0 : i = 0
 ·rw [if_pos e0]; decide
 ·rw [if_neg e0]
  by_cases e1 : i = 1
  ·rw [if_pos e1]; decide
  ·rw [if_neg e1]
   by_cases e2 : i = 2
   ·rw [if_pos e2]; exact hn
   ·rw [if_neg e2]; exact hS _ _ (by omega) (Nat.mod_lt _ (by decide))
theorem esealring_ok (oa ot : Option Addr) (cn n cs : Nat) (K : Nat → Nat) (N : Nat → Nat) (S : Nat → Nat → Nat) (w : World) (hb : Bytes w oa 32 K) (hT : TL w ot n N S) (h : OkT n N) (hS : ∀ i j, i < n → j < 32 → S i j < 256) (hnc : 32 ≤ cn) (hg : GV w) :
  Calls Tryz.prog 7 #[.slice oa 32 cn, .agg #[.slice ot n cs]] w fun e w' => ∃ v B, e = .returned (.tuple #[v, .nilIface]) ∧ Grow w' B v (12 + (3 + 32 * n + 16)) (rbF K (3 + 32 * n) (encF n S)) ∧ w.heap.size ≤ B ∧ Below w.heap.size w w' := by
 obtain ⟨w0, hw0⟩ := zX (w.alloc (.cells #[.slice ot n cs] 32))
 have hb0 : Below w.heap.size w w0 := by rw [← hw0]; exact zA
 have hB0 : Blk w0 w.heap.size #[.slice ot n cs] 32 := by rw [← hw0]; exact Blk.new _ _ _
 have c0 : w0.cell? ⟨w.heap.size, 0, none⟩ = some (.slice ot n cs) := by rw [Blk.cell hB0]; rfl
 have HEN := zh (encode_any n cs ot N S w0 (hT.later hb0) (fun i hi => by have := h.2.2 i hi; have := h.2.1; omega) hS (by have := h.2.1; omega))
 have HOK := zh h
 have HS := zh hS
 have HB0 := zh hb0
 have HKB := zh hb
 have HNC := zh hnc
 have HG := zh hg
 obtain ⟨m, hm⟩ := zX (3 + 32 * n)
 obtain ⟨G, hGG⟩ := zX (encF n S)
 rw [hm, hGG]
 clear hb0 hB0 hb hT h hS hnc hg
 go_enter Tryz.func7, Tryz.ntmps7
 go_wp2_with fail
 refine HEN.out.mono ?_
 rintro e w1 ⟨hb1, ⟨_, h1⟩ | ⟨_, v, rfl, hGb⟩⟩
 ·exact absurd HOK.out h1
 have hml : m ≤ 515 ∧ 35 ≤ m := by have := HOK.out.2.1; have := HOK.out.1; omega
 obtain ⟨op, cp, rfl, hBp, hcp, hcm, hno⟩ := hGb.bytesM (fun i hi => enc_lt (by have := HOK.out.2.1; omega) HS.out i hi)
 have hfr : ∀ y, op = some y → w0.heap.size ≤ y.block ∧ y.block < w1.heap.size := fun y hy => by
  have h2 := hBp.lt y hy (by omega)
  exact ⟨by subst hy; exact hGb.block y.block rfl, h2⟩
 rw [hm, hGG] at hBp
 rw [hm] at hcp hno ⊢
 have HP := zh (And.intro hBp (And.intro hcp (And.intro hcm (And.intro hml hfr))))
 have HB1 := zh (HB0.out.trans (hb1.mono HB0.out.size))
 have HOP : Hid (op = none → m = 0) := zh hno
 clear hb1 hGb hBp hcp hcm hml hfr hno HEN c0 HS HOK
 go_wp2_with fail
 refine (key_any oa cn K sN 0 w1 (HKB.out.later HB1.out) HNC.out (by decide) (by decide) (by decide) (HG.out.later HB1.out)).mono ?_
 rintro e w1k ⟨ok, rfl, hBk, hbk⟩
 have HB1k := zh (HB1.out.trans (hbk.mono HB1.out.size))
 have HBK := zh hBk
 have HPk := zh (HP.out.1.later hbk)
 have HFR : Hid (∀ y, op = some y → y.block < w1k.heap.size) := zh fun y hy => Nat.lt_of_lt_of_le (HP.out.2.2.2.2 y hy).2 hbk.size
 clear hBk hbk
 go_wp2_with fail
 refine (mac_any ok op 32 32 m cp (exF 32 K (sN.size + 5) (kiF sN 0)) G w1k HBK.out (Nat.le_refl _) (fun e => by obtain ⟨_, b, off, e2, _⟩ := HBK.out 0 (by decide); rw [e] at e2; cases e2) (by decide) HPk.out HP.out.2.1 (by have := HP.out.2.2.2.1; omega) (HG.out.later HB1k.out)).mono ?_
 rintro e w2 ⟨rfl, hb2⟩
 obtain ⟨M, hM⟩ := zX (rnF K m G)
 have hM' : hmN 32 (exF 32 K (sN.size + 5) (kiF sN 0)) m G = M := hM
 rw [hM']
 obtain ⟨C, hC⟩ := zX ((rowC 32 M).toArray)
 rw [hC]
 have HCC := zh hC
 have HMM := zh hM
 have HIC : Hid ((Tryz.prog.info? 22).map (·.size) = some C.size) := zh (by rw [← hC, List.size_toArray, rowC_len]; exact info_a32)
 have HZC : Hid (C.size = 32) := zh (by rw [← hC, List.size_toArray, rowC_len])
 have HOC : Hid (C.all (·.oneCell') = true) := zh (by rw [← hC]; exact all_oneCell_toArray (rowC_one _ _))
 have HML : Hid (∀ i, M i < 256) := zh fun i => by rw [← hM']; exact hmN_lt _ _ _ _ i
 have HB2 := zh (HB1k.out.trans (hb2.mono HB1k.out.size))
 have HSZ2 := zh hb2
 clear hM hM' hC hb2
 obtain ⟨b9, hqb9⟩ := zX w2.heap.size
 obtain ⟨wz, hwz⟩ := zX (w2.alloc (.cells zeroA 22))
 have hbz : Below w2.heap.size w2 wz := by rw [← hwz]; exact zA
 have hXz : Blk wz b9 zeroA 22 := by rw [← hwz, ← hqb9]; exact Blk.new _ _ _
 have HTZb9 : Hid (wz.there b9 0 C.size) := zh (hXz.there (by rw [zeroA_size, HZC.out]; exact Nat.le_refl _))
 obtain ⟨w3, hw5⟩ := zX (wz.setCells b9 0 C.toList)
 have hOz : Own b9 wz w3 := by rw [← hw5]; exact Own.setCells _ _ _
 have HBw3 : Hid (Below w2.heap.size w2 w3) := zh (hbz.trans (hOz.below (by omega) hbz.size))
 have HNw3 : Hid (Blk w3 b9 C 22) := zh (by rw [← hw5]; exact Blk.setCells hXz C.toList (by rw [zeroA_size, Array.length_toList]; exact HZC.out))
 have HWw3 := zh hw5
 clear hbz hXz hOz hw5
 have HB3 := zh (HB2.out.trans (HBw3.out.mono HB2.out.size))
 have HBM : Hid (Bytes w3 (some ⟨b9, 0, none⟩) 12 M) := zh (by
  have h9 := HNw3.out
  rw [← HCC.out] at h9
  have h8 := be_bytes h9 (fun i _ => HML.out i)
  exact fun k hk => h8 k (by omega))
 have HP3 := zh ((HPk.out.later HSZ2.out).later HBw3.out)
 go_wp2_with (first | (refine wpList_zero rfl rfl zero_a32 ?_; rw [hwz, hqb9]; (try simp only [Act.put, zS])) | (refine wpList_store_mid rfl 22 (.tmp 9) (.tmp 36) rfl b9 0 C rfl rfl HTZb9.out HIC.out HOC.out ?_; rw [HWw3.out]))
 refine (sealer_any oa cn K sR 0 w3 (HKB.out.later HB3.out) HNC.out (by decide) (by decide) (by decide) (HG.out.later HB3.out)).mono ?_
 rintro e w4 ⟨g, kb, bx, rfl, hGS⟩
 have HGS := zh hGS
 clear hGS
 obtain ⟨w5, hww5⟩ := zX (w4.alloc (.cells #[.int .u8 99, .int .u8 111, .int .u8 114, .int .u8 101, .int .u8 47, .int .u8 114, .int .u8 105, .int .u8 110, .int .u8 103] 5))
 obtain ⟨g5, hgg5⟩ := zX w4.heap.size
 obtain ⟨w6, hww6⟩ := zX (w5.freeze ⟨g5, 9, none⟩ 1)
 have hB3 : Blk w5 g5 (rowC 9 beR).toArray 5 := by rw [← hww5, ← hgg5]; exact bs_br w4
 have HSH : Hid (Shp w5 g5 9) := zh (Shp.blk hB3)
 have HA : Hid (Bytes w6 (some ⟨g5, 0, none⟩) 9 beR) := zh (by rw [← hww6]; exact (be_bytes hB3 beR_lt).frz _ _)
 have hb23 : Below w4.heap.size w4 w5 := by rw [← hww5]; exact zA
 have hb24 : Below w4.heap.size w4 w6 := hb23.trans (by rw [← hww6]; exact (Own.frz _ _ _ _).below (Nat.le_of_eq hgg5) hb23.size)
 have hlt := HGS.out.1.lt
 have hs4 := HGS.out.2.1.size
 have HK6 : Hid (KG w6 g kb bx (ekW K sR 0)) := zh (HGS.out.1.below hb24)
 have HM6 : Hid (Bytes w6 (some ⟨b9, 0, none⟩) 12 M) := zh ((HBM.out.later HGS.out.2.1).later hb24)
 have HP6 : Hid (Bytes w6 op m G) := zh ((HP3.out.later HGS.out.2.1).later hb24)
 have HB6 : Hid (Below w.heap.size w w6) := zh ((HB3.out.trans (HGS.out.2.1.mono HB3.out.size)).trans (hb24.mono (Nat.le_trans HB3.out.size hs4)))
 have h9lt := Blk.lt HNw3.out
 have HNE : Hid (b9 ≠ bx ∧ g5 ≠ bx ∧ w.heap.size ≤ bx ∧ (∀ y, op = some y → y.block ≠ bx)) := zh ⟨by have := HGS.out.2.2.1; omega, by omega, by have := HGS.out.2.2.1; have := HB3.out.size; omega, fun y hy => by have := HFR.out y hy; have := HSZ2.out.size; have := HBw3.out.size; have := HGS.out.2.2.1; omega⟩
 clear hB3 hb23 hb24 hlt hs4 h9lt
 go_wp2_with (first | (refine wpList_convB rfl (.tmp 50) rfl g5 9 9 9 rfl HSH.out ?_; rw [hww6]))
 refine (seal_any g kb bx (ekW K sR 0) M G beR m 9 (some ⟨b9, 0, none⟩) op (some ⟨g5, 0, none⟩) 12 cp 9 w6 HK6.out HM6.out (fun y hy => by cases hy; exact HNE.out.1) HP6.out (fun y hy _ => HNE.out.2.2.2 y hy) HA.out (fun y hy _ => by cases hy; exact HNE.out.2.1) HP.out.2.1 HP.out.2.2.1 (Nat.le_refl _) (by unfold maxLen; omega) (by have := HP.out.2.2.2.1; omega) (by decide)).mono ?_
 rintro e w7 ⟨v, rfl, hG, _, hO⟩
 have hMlt : ∀ i, i < 12 → M i < 256 := fun i _ => HML.out i
 obtain ⟨ob, cb, rfl, hBb, hcb, _, hnob⟩ := hG.bytesM (boxF_lt hMlt (fun i hi => (HP6.out i hi).1))
 obtain ⟨ad, rfl⟩ : ∃ ad, ob = some ad := by
  cases ob with
  | none => exact absurd (hnob rfl) (by omega)
  | some ad => exact ⟨ad, rfl⟩
 have HBB := zh hBb
 have HB7 : Hid (Below w.heap.size w w7) := zh (HB6.out.trans (hO.below HNE.out.2.2.1 HB6.out.size))
 have HM7 : Hid (Bytes w7 (some ⟨b9, 0, none⟩) 12 M) := zh (HM6.out.own hO (fun y hy _ => by cases hy; exact HNE.out.1))
 clear hG hO hBb hcb hnob hMlt
 go_wp2_with (first | (refine wpList_fullB rfl (.tmp 58) (.tmp 59) rfl b9 0 12 (m + 16) cb ad M (boxF (ekW K sR 0) M G m beR 9) w7 rfl HM7.out rfl HBB.out (by omega) (by have := HP.out.2.2.2.1; omega) ?_; intro v9 w9 hG9 hb9; have HG9 := zh hG9; have HB9 := zh (HB7.out.trans (hb9.mono HB7.out.size)); clear hG9 hb9))
 refine bodyPost_ret (v := .tuple #[v9, .nilIface]) ?_ rfl ⟨v9, _, rfl, by unfold rbF; rw [HMM.out]; exact HG9.out, HB7.out.size, HB9.out⟩
 exact results_tmp2 (t := 4) (u := 5) Tryz.results7 _ _ _
end Go.Proofs.YtncfocjmdecapaaGreatDoor
