/- Any K parts, in whatever order: the walk of ShamirAny. -/
import Derived.Test.YtmhofofidmbgfaaDoorSp8
namespace Go.Proofs.YtmhofofidmbgfaaDoor
set_option linter.unusedVariables false
set_option linter.unusedSimpArgs false
open Go.RowKit

theorem Own.low {tb B : Nat} {w w' : World} (h : Own tb w w') (hb : B ≤ tb) (hs : B ≤ w.heap.size) : Below B w w' := h.below hb hs

set_option maxRecDepth 100000 in
set_option maxHeartbeats 8000000 in
theorem any_any (os od oa : Option Addr) (ns cs0 nd cd nr cr : Nat) (K N0 : Int) (s0 dd r0 : Nat → Nat) (w : World) (hg : Handle w) (hs : Bytes w os ns s0) (hd : Bytes w od nd dd) (hno : os = none → ns = 0) (hnc : ns ≤ cs0) (hcm : cs0 ≤ maxLen) (hnd : nd ≤ maxLen) (hr : Bytes w oa nr r0) (hnr : nr ≤ maxLen) :
    Calls Tryd.prog 5 #[.agg #[.slice os ns cs0, .int .i64 K, .int .i64 N0, .slice od nd cd], .slice oa nr cr] w fun e w' => e = .returned (.bool true) ∧ Below w.heap.size w w' := by
  have hm2 : nr ≤ 9223372036854775807 := by unfold maxLen at hnr; exact hnr
  obtain ⟨w0, hw0⟩ : ∃ x, w.alloc (.cells #[.slice os ns cs0, .int .i64 K, .int .i64 N0, .slice od nd cd] 57) = x := ⟨_, rfl⟩
  have hb0 : Below w.heap.size w w0 := by rw [← hw0]; exact (Below.refl _ _).alloc (Nat.le_refl _) _
  have HBX : Hid (Blk w0 w.heap.size #[.slice os ns cs0, .int .i64 K, .int .i64 N0, .slice od nd cd] 57) := Lib.hid (by rw [← hw0]; exact Blk.new _ _ _)
  have HL := Lib.hid (laid_any os od ns cs0 nd cd K N0 s0 dd w0 (hs.later hb0) (hd.later hb0) hno hnc hcm hnd)
  have HR0 := Lib.hid hr
  have HG := Lib.hid hg
  have HB0 := Lib.hid hb0
  clear hs hd hno hnc hcm hnd hr hg hb0 hnr
  have g0 : w0.cell? ⟨w.heap.size, 0, none⟩ = some (.slice os ns cs0) := by rw [Blk.cell HBX.out]; rfl
  have g1 : w0.cell? ⟨w.heap.size, 1, none⟩ = some (.int .i64 K) := by rw [Blk.cell HBX.out]; rfl
  have g2 : w0.cell? ⟨w.heap.size, 2, none⟩ = some (.int .i64 N0) := by rw [Blk.cell HBX.out]; rfl
  have g3 : w0.cell? ⟨w.heap.size, 3, none⟩ = some (.slice od nd cd) := by rw [Blk.cell HBX.out]; rfl
  go_enter Tryd.func5, Tryd.ntmps5
  go_wp2_with fail
  refine HL.out.mono ?_
  rintro e w1 ⟨sb, so, L, cs, k, N, db, s, d, rfl, hLd⟩
  have HLD := Lib.hid hLd
  obtain ⟨k1, hk1⟩ : ∃ x, k + 1 = x := ⟨_, rfl⟩
  rw [hk1]
  obtain ⟨M, hM⟩ : ∃ x, L * k = x := ⟨_, rfl⟩
  rw [hM]
  have HK1 := Lib.hid hk1
  have HM := Lib.hid hM
  clear hLd HL g0 g1 g2 g3 hw0 hk1 hM
  go_wp2_with fail
  obtain ⟨b6, hb6⟩ : ∃ x, w1.heap.size = x := ⟨_, rfl⟩
  obtain ⟨w2, hw2⟩ : ∃ x, w1.alloc (.cells #[.int .i64 (k1 : Int), .int .i64 (N : Int), .int .u32 5] 28) = x := ⟨_, rfl⟩
  have hb12 : Below w1.heap.size w1 w2 := by rw [← hw2]; exact (Below.refl _ _).alloc (Nat.le_refl _) _
  have hP2 : Blk w2 b6 [.int .i64 (k1 : Int), .int .i64 (N : Int), .int .u32 5].toArray 28 := by rw [← hw2, ← hb6]; exact Blk.new _ _ _
  refine (gfnew_any _).mono ?_
  rw [hw2]
  rintro e w3 ⟨rfl, hT3, hb23⟩
  obtain ⟨tb, htb⟩ : ∃ x, w2.heap.size = x := ⟨_, rfl⟩
  have hsz3 : tb < w3.heap.size := by rw [← htb]; exact hT3.lt
  have hb13 : Below w1.heap.size w1 w3 := hb12.trans (hb23.mono hb12.size)
  have HB3 : Hid (Below w.heap.size w w3) := Lib.hid ((HB0.out.trans (HLD.out.bel.mono HB0.out.size)).trans (hb13.mono (Nat.le_trans HB0.out.size HLD.out.bel.size)))
  have HN3 : Hid (sb ≠ tb ∧ db ≠ tb ∧ b6 < tb ∧ w.heap.size < b6 ∧ w.heap.size ≤ tb) := Lib.hid (by
    have e1 := (HLD.out.sec.later hb12).apart HLD.out.l1 _ rfl
    have e2 := (HLD.out.dr.later hb12).apart (Nat.mul_pos HLD.out.l1 HLD.out.k1) _ rfl
    have e3 := Blk.lt hP2
    have e4 := Blk.lt (Blk.below HBX.out HLD.out.bel (Blk.lt HBX.out))
    have e5 := HB0.out.size
    simp only at e1 e2
    refine ⟨by omega, by omega, by omega, by omega, by omega⟩)
  have HSEC := Lib.hid (HLD.out.sec.later hb13)
  have HDR := Lib.hid (HLD.out.dr.later hb13)
  have HP3 := Lib.hid (Blk.below hP2 hb23 (Blk.lt hP2))
  have HBX3 := Lib.hid (Blk.below (Blk.below HBX.out HLD.out.bel (Blk.lt HBX.out)) hb13 (by have := HN3.out; omega))
  have HSP := Lib.hid (split_any tb k1 N k 5 L cs M M sb so db 0 s d w3 (by rw [← htb]; exact hT3) HSEC.out HN3.out.1 (by rw [← HM.out]; exact HDR.out) HN3.out.2.1 (by rw [← HK1.out]) (by have := HLD.out.k1; have := HK1.out; omega) (by have := HLD.out.nk; have := HK1.out; omega) (by have := HLD.out.n15; omega) HLD.out.l1 (by have := HLD.out.l40; omega) HM.out.symm (Nat.le_refl _))
  have c0 : w3.cell? ⟨b6, 0, none⟩ = some (.int .i64 (k1 : Int)) := by rw [Blk.cell HP3.out]; rfl
  have c1 : w3.cell? ⟨b6, 1, none⟩ = some (.int .i64 (N : Int)) := by rw [Blk.cell HP3.out]; rfl
  have c2 : w3.cell? ⟨b6, 2, none⟩ = some (.int .u32 5) := by rw [Blk.cell HP3.out]; rfl
  rw [hb6, htb]
  clear hb12 hP2 hw2 hT3 hb23 hb13 htb hb6
  go_wp2_with fail
  refine HSP.out.mono ?_
  rintro e w4 ⟨wA, rfl, hle, hOA, hR⟩
  have HSR := Lib.hid hR
  have HO4 := Lib.hid (hOA.trans hR.own)
  have HLA := Lib.hid hle
  have c1 : w4.cell? ⟨b6, 1, none⟩ = some (.int .i64 (N : Int)) := HO4.out.cell c1 (by have := HN3.out; show b6 ≠ tb; omega)
  clear hR hOA hle c0 c2 HSP
  by_cases h60 : 60 < nr
  · have hn6 : (60 : Int) < (nr : Int) := by omega
    have HHD := Lib.hid (HG.out.below (HB3.out.trans (HO4.out.low HN3.out.2.2.2.2 HB3.out.size)) HG.out.2)
    have HSU := Lib.hid (sure03 w4 HHD.out)
    go_wp2_with fail
    refine HSU.out.mono ?_
    rintro e w9 ⟨rfl, hb⟩
    have HBE := Lib.hid ((HB3.out.trans (HO4.out.low HN3.out.2.2.2.2 HB3.out.size)).trans (hb.mono (Nat.le_trans HB3.out.size HO4.out.size)))
    clear hb
    go_wp2_with fail
    go_ret
    exact ⟨rfl, HBE.out⟩
  · have hn6 : decide (60 < (nr : Int)) = false := decide_eq_false (by omega)
    have HLN := Lib.hid (show 1 ≤ N ∧ N ≤ 15 by have := HLD.out.nk; have := HLD.out.n15; omega)
    have hN1 : 0 < N := by have := HLN.out; omega
    have hN15 : N ≤ 1000 := by have := HLN.out; omega
    have HE5 : Hid (Blk (w4.alloc (.cells #[] 52)) w4.heap.size #[] 52) := Lib.hid (Blk.new _ _ _)
    have HR5 : Hid (Blk (w4.alloc (.cells #[] 52)) wA.heap.size (rws N (shC 5 wA.heap.size L)).toArray 52) := Lib.hid (HSR.out.blk.alloc _)
    have HSH : Hid (∀ i, i < N → (shC 5 wA.heap.size L i).length = 3) := Lib.hid fun _ _ => rfl
    have HS1 : Hid (∀ i, i < N → ∀ u ∈ shC 5 wA.heap.size L i, u.oneCell' = true) := Lib.hid fun i _ => shC_one _ _ _ i
    go_wp2_with (refine wpList_appSh rfl (.tmp 61) (.tmp 62) rfl w4.heap.size wA.heap.size N N (shC 5 wA.heap.size L) _ rfl HE5.out rfl HR5.out HSH.out HS1.out hN1 hN15 ?_)
    intro gm cm w5 hgm hcm1 hcm2 hMR hb45
    have hb5 : Below w4.heap.size w4 w5 := ((Below.refl _ _).alloc (Nat.le_refl _) (.cells #[] 52)).trans hb45
    have HSR5 := Lib.hid (HSR.out.later hb5)
    have HO5 := Lib.hid (HO4.out.then_fresh hb5)
    have hgm3 : w3.heap.size ≤ gm := by have := HO4.out.size; omega
    have hgm4 : wA.heap.size + 1 + N ≤ gm := by have := HSR.out.big; omega
    have HCM := Lib.hid (show N ≤ cm ∧ cm ≤ maxLen from ⟨hcm1, hcm2⟩)
    have HMR5 := Lib.hid hMR
    clear hgm hMR hb45 hb5 hcm1 hcm2 HE5 HR5 HSH HS1 HO4 HSR c1 hn6
    go_wp2_with fail
    go_loopw [12] (fun x wr => ∃ (i : Nat) (p : Nat → Nat), i ≤ nr ∧ x = .int .i64 (i : Int) ∧ (∀ i, i < N → p i < N) ∧ (∀ i j, i < N → j < N → p i = p j → i = j) ∧ MRow wr gm N (fun q => shC 5 wA.heap.size L (p q)) ∧ SR tb wA N L 5 (fun x => shF s d k (x + 1)) wr ∧ Own tb w3 wr) (fun x _ => nr - (intOf x).toNat)
    case atStart => exact ⟨0, fun q => q, Nat.zero_le _, rfl, fun _ h => h, fun _ _ _ _ h => h, HMR5.out, HSR5.out, HO5.out⟩
    case round =>
      obtain ⟨i, p, hi, rfl, hpl, hpi, hMR, hSR, hO⟩ := hrel
      have HMR := Lib.hid hMR.drew
      have HSR7 := Lib.hid hSR.drew
      have HOR := Lib.hid hO
      clear hMR hSR hO
      have d1 : wr.cell? ⟨b6, 1, none⟩ = some (.int .i64 (N : Int)) := HOR.out.cell (by rw [Blk.cell HP3.out]; rfl) (by have := HN3.out; show b6 ≠ tb; omega)
      by_cases hlt : i < nr
      · obtain ⟨hx8, ob, oo, rfl, hc⟩ := (HR0.out.later HB3.out) i hlt
        have hob : ob ≠ tb := by
          have e1 : ob < w.heap.size := by obtain ⟨_, b, o, e, hcc⟩ := HR0.out i hlt; cases e; exact World.block_lt_of_cell? w _ hcc
          have := HN3.out; omega
        obtain ⟨ox, hox⟩ : ∃ x, r0 i = x := ⟨_, rfl⟩
        rw [hox] at hc hx8
        have d2 : wr.cell? ⟨ob, oo + i, none⟩ = some (.int .u8 (ox : Nat)) := HOR.out.cell hc hob
        obtain ⟨a, ha0⟩ : ∃ x, i % N = x := ⟨_, rfl⟩
        obtain ⟨b, hb0⟩ : ∃ x, ox % N = x := ⟨_, rfl⟩
        have ha : a < N := by rw [← ha0]; exact Nat.mod_lt _ hN1
        have hb : b < N := by rw [← hb0]; exact Nat.mod_lt _ hN1
        have t1 : (i : Int).tmod (N : Int) = (a : Int) := by rw [Int.tmod_eq_emod_of_nonneg (by omega), ← ha0]; exact (Int.natCast_emod _ _).symm
        have t2 : (ox : Int).tmod (N : Int) = (b : Int) := by rw [Int.tmod_eq_emod_of_nonneg (by omega), ← hb0]; exact (Int.natCast_emod _ _).symm
        have t3 : (i : Int) % (N : Int) = (a : Int) := by rw [← ha0]; exact (Int.natCast_emod _ _).symm
        have t4 : (ox : Int) % (N : Int) = (b : Int) := by rw [← hb0]; exact (Int.natCast_emod _ _).symm
        have t5 : IntKind.i64.wrap (ox : Int) = (ox : Int) := IntWalk.i64_in _ (by omega)
        have t6 : ((N : Int) == 0) = false := by rw [beq_eq_false_iff_ne]; omega
        have t11 : ¬ N = 0 := by omega
        have t7 : (0 : Int) ≤ (i : Int) ∧ (i : Int) < (nr : Int) := by omega
        have t8 : (0 : Int) ≤ (a : Int) ∧ (a : Int) < (N : Int) ∧ (0 : Int) ≤ (b : Int) ∧ (b : Int) < (N : Int) := by omega
        have t9 : IntKind.i64.wrap (a : Int) = (a : Int) := IntWalk.i64_in _ (by have := HLN.out; omega)
        have t10 : IntKind.i64.wrap (b : Int) = (b : Int) := IntWalk.i64_in _ (by have := HLN.out; omega)
        have hC3 : ∀ q, q < N → ((fun q => shC 5 wA.heap.size L (p q)) q).length = 3 := fun _ _ => rfl
        clear ha0 hb0 hc hox
        have hP_9 : Own tb w3 wr.drew := HOR.out.drew
        go_wp2_with fail
        refine wp_region_held_drew (S := (fun w7 : World => w7.cell? ⟨b6, 1, none⟩ = some (.int .i64 (N : Int)) ∧ w7.cell? ⟨ob, oo + i, none⟩ = some (.int .u8 (ox : Nat)))) (by kernel_rfl) ?_ (fun hHeld => ?_)
        · (try dsimp only)
          first | assumption | exact ⟨d1, d2⟩
        generalize wr.drew = W6 at *
        refine wpAnyH_take (i := 0) (oi := { dst := some 70, op := Go.Op.move (Go.Operand.tmp 12), type := 3, pos := "law.go:132", after := #[], guard := none }) (v := ?_) rfl (by kernel_rfl) (by kernel_rfl) (by kernel_rfl) (fun _ _ _ h => h) (Or.inl ⟨by rfl, ?_⟩) (by assumption) ?_
        rotate_left
        · intro wS hSw
          ((obtain ⟨h71, h72⟩ := hSw); go_simp; (try with_reducible rfl))
        (try simp only [Act.put, List.setIfInBounds_toArray, List.set_cons_zero, List.set_cons_succ])
        refine wpAnyH_take (i := 1) (oi := { dst := some 71, op := Go.Op.fieldAddr 28 (Go.Operand.tmp 6) 1, type := 0, pos := "law.go:132", after := #[], guard := none }) (v := ?_) rfl (by kernel_rfl) (by kernel_rfl) (by kernel_rfl) (fun _ _ _ h => h) (Or.inl ⟨by rfl, ?_⟩) (by assumption) ?_
        rotate_left
        · intro wS hSw
          ((obtain ⟨h71, h72⟩ := hSw); go_simp; (try with_reducible rfl))
        (try simp only [Act.put, List.setIfInBounds_toArray, List.set_cons_zero, List.set_cons_succ])
        refine wpAnyH_take (i := 2) (oi := { dst := some 72, op := Go.Op.load 3 (Go.Operand.tmp 71), type := 3, pos := "law.go:132", after := #[{ on := 1, ground := Go.Ground.data }], guard := none }) (v := ?_) rfl (by kernel_rfl) (by kernel_rfl) (by kernel_rfl) (fun _ _ _ h => h) (Or.inl ⟨by rfl, ?_⟩) (by assumption) ?_
        rotate_left
        · intro wS hSw
          ((obtain ⟨h71, h72⟩ := hSw); go_simp; (try with_reducible rfl))
        (try simp only [Act.put, List.setIfInBounds_toArray, List.set_cons_zero, List.set_cons_succ])
        refine wpAnyH_take (i := 3) (oi := { dst := some 73, op := Go.Op.binOp Go.BinOp.rem 3 (Go.Operand.tmp 70) (Go.Operand.tmp 72) 3, type := 3, pos := "law.go:132", after := #[{ on := 0, ground := Go.Ground.data }, { on := 2, ground := Go.Ground.data }], guard := none }) (v := ?_) rfl (by kernel_rfl) (by kernel_rfl) (by kernel_rfl) (fun _ _ _ h => h) (Or.inl ⟨by rfl, ?_⟩) (by assumption) ?_
        rotate_left
        · intro wS hSw
          ((obtain ⟨h71, h72⟩ := hSw); go_simp; (try with_reducible rfl))
        (try simp only [Act.put, List.setIfInBounds_toArray, List.set_cons_zero, List.set_cons_succ])
        refine wpAnyH_take (i := 4) (oi := { dst := some 74, op := Go.Op.move (Go.Operand.tmp 1), type := 22, pos := "law.go:132", after := #[{ on := 12, ground := Go.Ground.gcOnly Go.Departure.lateStores }], guard := none }) (v := ?_) rfl (by kernel_rfl) (by kernel_rfl) (by kernel_rfl) (fun _ _ _ h => h) (Or.inl ⟨by rfl, ?_⟩) (by assumption) ?_
        rotate_left
        · intro wS hSw
          ((obtain ⟨h71, h72⟩ := hSw); go_simp; (try with_reducible rfl))
        (try simp only [Act.put, List.setIfInBounds_toArray, List.set_cons_zero, List.set_cons_succ])
        refine wpAnyH_take (i := 5) (oi := { dst := some 75, op := Go.Op.move (Go.Operand.tmp 12), type := 3, pos := "law.go:132", after := #[{ on := 12, ground := Go.Ground.gcOnly Go.Departure.lateStores }], guard := none }) (v := ?_) rfl (by kernel_rfl) (by kernel_rfl) (by kernel_rfl) (fun _ _ _ h => h) (Or.inl ⟨by rfl, ?_⟩) (by assumption) ?_
        rotate_left
        · intro wS hSw
          ((obtain ⟨h71, h72⟩ := hSw); go_simp; (try with_reducible rfl))
        (try simp only [Act.put, List.setIfInBounds_toArray, List.set_cons_zero, List.set_cons_succ])
        refine wpAnyH_take (i := 6) (oi := { dst := some 76, op := Go.Op.indexAddr 22 (Go.Operand.tmp 74) (Go.Operand.tmp 75), type := 0, pos := "law.go:132", after := #[{ on := 4, ground := Go.Ground.data }, { on := 5, ground := Go.Ground.data }, { on := 12, ground := Go.Ground.gcOnly Go.Departure.lateStores }], guard := none }) (v := ?_) rfl (by kernel_rfl) (by kernel_rfl) (by kernel_rfl) (fun _ _ _ h => h) (Or.inl ⟨by rfl, ?_⟩) (by assumption) ?_
        rotate_left
        · intro wS hSw
          ((obtain ⟨h71, h72⟩ := hSw); go_simp; (try with_reducible rfl))
        (try simp only [Act.put, List.setIfInBounds_toArray, List.set_cons_zero, List.set_cons_succ])
        refine wpAnyH_take (i := 7) (oi := { dst := some 77, op := Go.Op.load 5 (Go.Operand.tmp 76), type := 5, pos := "law.go:132", after := #[{ on := 6, ground := Go.Ground.data }, { on := 12, ground := Go.Ground.gcOnly Go.Departure.lateStores }], guard := none }) (v := ?_) rfl (by kernel_rfl) (by kernel_rfl) (by kernel_rfl) (fun _ _ _ h => h) (Or.inl ⟨by rfl, ?_⟩) (by assumption) ?_
        rotate_left
        · intro wS hSw
          ((obtain ⟨h71, h72⟩ := hSw); go_simp; (try with_reducible rfl))
        (try simp only [Act.put, List.setIfInBounds_toArray, List.set_cons_zero, List.set_cons_succ])
        refine wpAnyH_take (i := 8) (oi := { dst := some 78, op := Go.Op.convert 5 3 (Go.Operand.tmp 77), type := 3, pos := "law.go:132", after := #[{ on := 7, ground := Go.Ground.data }, { on := 12, ground := Go.Ground.gcOnly Go.Departure.lateStores }], guard := none }) (v := ?_) rfl (by kernel_rfl) (by kernel_rfl) (by kernel_rfl) (fun _ _ _ h => h) (Or.inl ⟨by rfl, ?_⟩) (by assumption) ?_
        rotate_left
        · intro wS hSw
          ((obtain ⟨h71, h72⟩ := hSw); go_simp; (try with_reducible rfl))
        (try simp only [Act.put, List.setIfInBounds_toArray, List.set_cons_zero, List.set_cons_succ])
        refine wpAnyH_take (i := 9) (oi := { dst := some 79, op := Go.Op.fieldAddr 28 (Go.Operand.tmp 6) 1, type := 0, pos := "law.go:132", after := #[{ on := 12, ground := Go.Ground.gcOnly Go.Departure.lateStores }], guard := none }) (v := ?_) rfl (by kernel_rfl) (by kernel_rfl) (by kernel_rfl) (fun _ _ _ h => h) (Or.inl ⟨by rfl, ?_⟩) (by assumption) ?_
        rotate_left
        · intro wS hSw
          ((obtain ⟨h71, h72⟩ := hSw); go_simp; (try with_reducible rfl))
        (try simp only [Act.put, List.setIfInBounds_toArray, List.set_cons_zero, List.set_cons_succ])
        refine wpAnyH_take (i := 10) (oi := { dst := some 80, op := Go.Op.load 3 (Go.Operand.tmp 79), type := 3, pos := "law.go:132", after := #[{ on := 9, ground := Go.Ground.data }, { on := 12, ground := Go.Ground.gcOnly Go.Departure.lateStores }], guard := none }) (v := ?_) rfl (by kernel_rfl) (by kernel_rfl) (by kernel_rfl) (fun _ _ _ h => h) (Or.inl ⟨by rfl, ?_⟩) (by assumption) ?_
        rotate_left
        · intro wS hSw
          ((obtain ⟨h71, h72⟩ := hSw); go_simp; (try with_reducible rfl))
        (try simp only [Act.put, List.setIfInBounds_toArray, List.set_cons_zero, List.set_cons_succ])
        refine wpAnyH_take (i := 11) (oi := { dst := some 81, op := Go.Op.binOp Go.BinOp.rem 3 (Go.Operand.tmp 78) (Go.Operand.tmp 80) 3, type := 3, pos := "law.go:132", after := #[{ on := 8, ground := Go.Ground.data }, { on := 10, ground := Go.Ground.data }, { on := 12, ground := Go.Ground.gcOnly Go.Departure.lateStores }], guard := none }) (v := ?_) rfl (by kernel_rfl) (by kernel_rfl) (by kernel_rfl) (fun _ _ _ h => h) (Or.inl ⟨by rfl, ?_⟩) (by assumption) ?_
        rotate_left
        · intro wS hSw
          ((obtain ⟨h71, h72⟩ := hSw); go_simp; (try with_reducible rfl))
        (try simp only [Act.put, List.setIfInBounds_toArray, List.set_cons_zero, List.set_cons_succ])
        refine wpAnyH_take (i := 12) (oi := { dst := some 13, op := Go.Op.assign (Go.Operand.tmp 73), type := 3, pos := "law.go:132", after := #[{ on := 3, ground := Go.Ground.data }, { on := 0, ground := Go.Ground.phase }, { on := 1, ground := Go.Ground.phase }, { on := 2, ground := Go.Ground.phase }, { on := 3, ground := Go.Ground.phase }, { on := 4, ground := Go.Ground.textOnly Go.Departure.lateStores }, { on := 5, ground := Go.Ground.textOnly Go.Departure.lateStores }, { on := 6, ground := Go.Ground.textOnly Go.Departure.lateStores }, { on := 7, ground := Go.Ground.textOnly Go.Departure.lateStores }, { on := 8, ground := Go.Ground.textOnly Go.Departure.lateStores }, { on := 9, ground := Go.Ground.textOnly Go.Departure.lateStores }, { on := 10, ground := Go.Ground.textOnly Go.Departure.lateStores }, { on := 11, ground := Go.Ground.textOnly Go.Departure.lateStores }], guard := none }) (v := ?_) rfl (by kernel_rfl) (by kernel_rfl) (by kernel_rfl) (fun _ _ _ h => h) (Or.inl ⟨by rfl, ?_⟩) (by assumption) ?_
        rotate_left
        · intro wS hSw
          ((obtain ⟨h71, h72⟩ := hSw); go_simp; (try with_reducible rfl))
        (try simp only [Act.put, List.setIfInBounds_toArray, List.set_cons_zero, List.set_cons_succ])
        refine wpAnyH_take (i := 13) (oi := { dst := some 14, op := Go.Op.assign (Go.Operand.tmp 81), type := 3, pos := "law.go:132", after := #[{ on := 11, ground := Go.Ground.data }, { on := 12, ground := Go.Ground.chain }, { on := 0, ground := Go.Ground.phase }, { on := 1, ground := Go.Ground.phase }, { on := 2, ground := Go.Ground.phase }, { on := 3, ground := Go.Ground.phase }, { on := 4, ground := Go.Ground.phase }, { on := 5, ground := Go.Ground.phase }, { on := 6, ground := Go.Ground.phase }, { on := 7, ground := Go.Ground.phase }, { on := 8, ground := Go.Ground.phase }, { on := 9, ground := Go.Ground.phase }, { on := 10, ground := Go.Ground.phase }, { on := 11, ground := Go.Ground.phase }, { on := 12, ground := Go.Ground.phase }], guard := none }) (v := ?_) rfl (by kernel_rfl) (by kernel_rfl) (by kernel_rfl) (fun _ _ _ h => h) (Or.inl ⟨by rfl, ?_⟩) (by assumption) ?_
        rotate_left
        · intro wS hSw
          ((obtain ⟨h71, h72⟩ := hSw); go_simp; (try with_reducible rfl))
        (try simp only [Act.put, List.setIfInBounds_toArray, List.set_cons_zero, List.set_cons_succ])
        refine wpAnyH_done (by kernel_rfl) ?_ _
        clear d1 d2
        replace HMR := Lib.hid HMR.out.drew
        replace HSR7 := Lib.hid HSR7.out.drew
        have hP_0 := hP_9.drew
        clear hP_9
        go_wp2_with fail
        refine wp_region_held_drew (S := (Own tb w3)) (by kernel_rfl) ?_ (fun hHeld => ?_)
        · (try dsimp only)
          first | assumption | exact hP_0
        generalize W6.drew = W7 at *
        refine wpAnyH_take (i := 0) (oi := { dst := some 82, op := Go.Op.move (Go.Operand.tmp 11), type := 29, pos := "law.go:133", after := #[], guard := none }) (v := ?_) rfl (by kernel_rfl) (by kernel_rfl) (by kernel_rfl) (fun _ _ _ h => h) (Or.inl ⟨by rfl, ?_⟩) (by assumption) ?_
        rotate_left
        · intro wS hSw
          (try dsimp only at hSw)
          go_simp
          (try with_reducible rfl)
        (try simp only [Act.put, List.setIfInBounds_toArray, List.set_cons_zero, List.set_cons_succ])
        refine wpAnyH_take (i := 1) (oi := { dst := some 83, op := Go.Op.move (Go.Operand.tmp 13), type := 3, pos := "law.go:133", after := #[], guard := none }) (v := ?_) rfl (by kernel_rfl) (by kernel_rfl) (by kernel_rfl) (fun _ _ _ h => h) (Or.inl ⟨by rfl, ?_⟩) (by assumption) ?_
        rotate_left
        · intro wS hSw
          (try dsimp only at hSw)
          go_simp
          (try with_reducible rfl)
        (try simp only [Act.put, List.setIfInBounds_toArray, List.set_cons_zero, List.set_cons_succ])
        refine wpAnyH_take (i := 2) (oi := { dst := some 84, op := Go.Op.move (Go.Operand.tmp 11), type := 29, pos := "law.go:133", after := #[{ on := 13, ground := Go.Ground.gcOnly Go.Departure.lateStores }], guard := none }) (v := ?_) rfl (by kernel_rfl) (by kernel_rfl) (by kernel_rfl) (fun _ _ _ h => h) (Or.inl ⟨by rfl, ?_⟩) (by assumption) ?_
        rotate_left
        · intro wS hSw
          (try dsimp only at hSw)
          go_simp
          (try with_reducible rfl)
        (try simp only [Act.put, List.setIfInBounds_toArray, List.set_cons_zero, List.set_cons_succ])
        refine wpAnyH_take (i := 3) (oi := { dst := some 85, op := Go.Op.move (Go.Operand.tmp 14), type := 3, pos := "law.go:133", after := #[{ on := 13, ground := Go.Ground.gcOnly Go.Departure.lateStores }], guard := none }) (v := ?_) rfl (by kernel_rfl) (by kernel_rfl) (by kernel_rfl) (fun _ _ _ h => h) (Or.inl ⟨by rfl, ?_⟩) (by assumption) ?_
        rotate_left
        · intro wS hSw
          (try dsimp only at hSw)
          go_simp
          (try with_reducible rfl)
        (try simp only [Act.put, List.setIfInBounds_toArray, List.set_cons_zero, List.set_cons_succ])
        refine wpAnyH_take (i := 4) (oi := { dst := some 86, op := Go.Op.move (Go.Operand.tmp 11), type := 29, pos := "law.go:133", after := #[], guard := none }) (v := ?_) rfl (by kernel_rfl) (by kernel_rfl) (by kernel_rfl) (fun _ _ _ h => h) (Or.inl ⟨by rfl, ?_⟩) (by assumption) ?_
        rotate_left
        · intro wS hSw
          (try dsimp only at hSw)
          go_simp
          (try with_reducible rfl)
        (try simp only [Act.put, List.setIfInBounds_toArray, List.set_cons_zero, List.set_cons_succ])
        refine wpAnyH_take (i := 5) (oi := { dst := some 87, op := Go.Op.move (Go.Operand.tmp 14), type := 3, pos := "law.go:133", after := #[], guard := none }) (v := ?_) rfl (by kernel_rfl) (by kernel_rfl) (by kernel_rfl) (fun _ _ _ h => h) (Or.inl ⟨by rfl, ?_⟩) (by assumption) ?_
        rotate_left
        · intro wS hSw
          (try dsimp only at hSw)
          go_simp
          (try with_reducible rfl)
        (try simp only [Act.put, List.setIfInBounds_toArray, List.set_cons_zero, List.set_cons_succ])
        refine wpAnyH_take (i := 6) (oi := { dst := some 88, op := Go.Op.indexAddr 29 (Go.Operand.tmp 86) (Go.Operand.tmp 87), type := 0, pos := "law.go:133", after := #[{ on := 4, ground := Go.Ground.data }, { on := 5, ground := Go.Ground.data }], guard := none }) (v := ?_) rfl (by kernel_rfl) (by kernel_rfl) (by kernel_rfl) (fun _ _ _ h => h) (Or.inl ⟨by rfl, ?_⟩) (by assumption) ?_
        rotate_left
        · intro wS hSw
          (try dsimp only at hSw)
          go_simp
          (try with_reducible rfl)
        (try simp only [Act.put, List.setIfInBounds_toArray, List.set_cons_zero, List.set_cons_succ])
        refine wpAnyH_take (i := 8) (oi := { dst := some 90, op := Go.Op.move (Go.Operand.tmp 11), type := 29, pos := "law.go:133", after := #[], guard := none }) (v := ?_) rfl (by kernel_rfl) (by kernel_rfl) (by kernel_rfl) (fun _ _ _ h => h) (Or.inl ⟨by rfl, ?_⟩) (by assumption) ?_
        rotate_left
        · intro wS hSw
          (try dsimp only at hSw)
          go_simp
          (try with_reducible rfl)
        (try simp only [Act.put, List.setIfInBounds_toArray, List.set_cons_zero, List.set_cons_succ])
        refine wpAnyH_take (i := 9) (oi := { dst := some 91, op := Go.Op.move (Go.Operand.tmp 13), type := 3, pos := "law.go:133", after := #[], guard := none }) (v := ?_) rfl (by kernel_rfl) (by kernel_rfl) (by kernel_rfl) (fun _ _ _ h => h) (Or.inl ⟨by rfl, ?_⟩) (by assumption) ?_
        rotate_left
        · intro wS hSw
          (try dsimp only at hSw)
          go_simp
          (try with_reducible rfl)
        (try simp only [Act.put, List.setIfInBounds_toArray, List.set_cons_zero, List.set_cons_succ])
        refine wpAnyH_take (i := 10) (oi := { dst := some 92, op := Go.Op.indexAddr 29 (Go.Operand.tmp 90) (Go.Operand.tmp 91), type := 0, pos := "law.go:133", after := #[{ on := 8, ground := Go.Ground.data }, { on := 9, ground := Go.Ground.data }], guard := none }) (v := ?_) rfl (by kernel_rfl) (by kernel_rfl) (by kernel_rfl) (fun _ _ _ h => h) (Or.inl ⟨by rfl, ?_⟩) (by assumption) ?_
        rotate_left
        · intro wS hSw
          (try dsimp only at hSw)
          go_simp
          (try with_reducible rfl)
        (try simp only [Act.put, List.setIfInBounds_toArray, List.set_cons_zero, List.set_cons_succ])
        refine wpAnyH_ready (rs := [7, 11]) (by kernel_rfl) (by simp) ?_
        refine AllReadyH.cons (o := { dst := some 89, op := Go.Op.load 52 (Go.Operand.tmp 88), type := 52, pos := "law.go:133", after := #[{ on := 6, ground := Go.Ground.data }], guard := none }) rfl (fun K hK => ?_) ?_
        · skip
          (refine step_valueG (by rfl) (exec_loadM (x := .tmp 88) (cs := [.int .u8 ((p b : Int) + 1), .int .u32 5, .slice (some ⟨wA.heap.size + 1 + p b, 0, none⟩) L L]) rfl rfl (HMR.out.range hC3 hb) Tryd.underlying52 rfl info_share3) ?_; skip)
          refine hK.out _ _ ?_ (fun hHeld => ?_)
          · (try dsimp only)
            first | assumption | exact hP_0
          clear hK K
          (try simp only [Act.put, List.setIfInBounds_toArray, List.set_cons_zero, List.set_cons_succ])
          refine wpAnyH_ready (rs := [11]) (by kernel_rfl) (by simp) ?_
          refine AllReadyH.cons (o := { dst := some 93, op := Go.Op.load 52 (Go.Operand.tmp 92), type := 52, pos := "law.go:133", after := #[{ on := 10, ground := Go.Ground.data }], guard := none }) rfl (fun K hK => ?_) AllReadyH.nil
          (refine step_valueG (by rfl) (exec_loadM (x := .tmp 92) (cs := [.int .u8 ((p a : Int) + 1), .int .u32 5, .slice (some ⟨wA.heap.size + 1 + p a, 0, none⟩) L L]) rfl rfl (HMR.out.range hC3 ha) Tryd.underlying52 rfl info_share3) ?_; skip)
          refine hK.out _ _ ?_ (fun hHeld => ?_)
          · (try dsimp only)
            first | assumption | exact hP_0
          clear hK K
          (try simp only [Act.put, List.setIfInBounds_toArray, List.set_cons_zero, List.set_cons_succ])
          refine wpAnyH_take (i := 12) (oi := { dst := some 94, op := Go.Op.indexAddr 29 (Go.Operand.tmp 82) (Go.Operand.tmp 83), type := 0, pos := "law.go:133", after := #[{ on := 0, ground := Go.Ground.data }, { on := 1, ground := Go.Ground.data }, { on := 0, ground := Go.Ground.phase }, { on := 1, ground := Go.Ground.phase }, { on := 2, ground := Go.Ground.textOnly Go.Departure.lateStores }, { on := 3, ground := Go.Ground.textOnly Go.Departure.lateStores }, { on := 4, ground := Go.Ground.phase }, { on := 5, ground := Go.Ground.phase }, { on := 6, ground := Go.Ground.phase }, { on := 7, ground := Go.Ground.phase }, { on := 8, ground := Go.Ground.textOnly Go.Departure.lateStores }, { on := 9, ground := Go.Ground.textOnly Go.Departure.lateStores }, { on := 10, ground := Go.Ground.textOnly Go.Departure.lateStoresUnsure }, { on := 11, ground := Go.Ground.phase }], guard := none }) (v := ?_) rfl (by kernel_rfl) (by kernel_rfl) (by kernel_rfl) (fun _ _ _ h => h) (Or.inl ⟨by rfl, ?_⟩) (by assumption) ?_
          rotate_left
          · intro wS hSw
            (try dsimp only at hSw)
            go_simp
            (try with_reducible rfl)
          (try simp only [Act.put, List.setIfInBounds_toArray, List.set_cons_zero, List.set_cons_succ])
          refine wpAnyH_ready (rs := [13]) (by kernel_rfl) (by simp) ?_
          refine AllReadyH.cons (o := { dst := none, op := Go.Op.store 52 (Go.Operand.tmp 94) (Go.Operand.tmp 89), type := 0, pos := "law.go:133", after := #[{ on := 12, ground := Go.Ground.data }, { on := 7, ground := Go.Ground.data }, { on := 0, ground := Go.Ground.phase }, { on := 1, ground := Go.Ground.phase }, { on := 2, ground := Go.Ground.textOnly Go.Departure.lateStores }, { on := 3, ground := Go.Ground.textOnly Go.Departure.lateStores }, { on := 4, ground := Go.Ground.phase }, { on := 5, ground := Go.Ground.phase }, { on := 6, ground := Go.Ground.phase }, { on := 7, ground := Go.Ground.phase }, { on := 8, ground := Go.Ground.textOnly Go.Departure.lateStores }, { on := 9, ground := Go.Ground.textOnly Go.Departure.lateStores }, { on := 10, ground := Go.Ground.textOnly Go.Departure.lateStoresUnsure }, { on := 11, ground := Go.Ground.phase }], guard := none }) rfl (fun K hK => ?_) AllReadyH.nil
          (refine step_storeM rfl 52 (.tmp 94) (.tmp 89) rfl gm (a * 3) #[.int .u8 ((p b : Int) + 1), .int .u32 5, .slice (some ⟨wA.heap.size + 1 + p b, 0, none⟩) L L] rfl rfl (HMR.out.there ha) info_share3 (one_share _ _ _ _ _ _ _) ?_; have hP_1 := hP_0.then_new (Own.setCells (b := gm) [.int .u8 ((p b : Int) + 1), .int .u32 5, .slice (some ⟨wA.heap.size + 1 + p b, 0, none⟩) L L] (a * 3) W7) hgm3; have HM1 := Lib.hid (HMR.out.set3 hC3 ha (.int .u8 ((p b : Int) + 1)) (.int .u32 5) (.slice (some ⟨wA.heap.size + 1 + p b, 0, none⟩) L L)); have HO1 := Lib.hid (Own.setCells (b := gm) [.int .u8 ((p b : Int) + 1), .int .u32 5, .slice (some ⟨wA.heap.size + 1 + p b, 0, none⟩) L L] (a * 3) W7); obtain ⟨W8, hw8⟩ : ∃ q, W7.setCells gm (a * 3) [.int .u8 ((p b : Int) + 1), .int .u32 5, .slice (some ⟨wA.heap.size + 1 + p b, 0, none⟩) L L] = q := ⟨_, rfl⟩; rw [hw8] at hP_1 HM1 HO1 ⊢; clear hP_0 hw8; skip)
          refine hK.out _ _ ?_ (fun hHeld => ?_)
          · (try dsimp only)
            first | assumption | exact hP_0
          clear hK K
          (try simp only [Act.put, List.setIfInBounds_toArray, List.set_cons_zero, List.set_cons_succ])
          refine wpAnyH_take (i := 14) (oi := { dst := some 95, op := Go.Op.indexAddr 29 (Go.Operand.tmp 84) (Go.Operand.tmp 85), type := 0, pos := "law.go:133", after := #[{ on := 2, ground := Go.Ground.data }, { on := 3, ground := Go.Ground.data }, { on := 0, ground := Go.Ground.phase }, { on := 1, ground := Go.Ground.phase }, { on := 2, ground := Go.Ground.phase }, { on := 3, ground := Go.Ground.phase }, { on := 4, ground := Go.Ground.phase }, { on := 5, ground := Go.Ground.phase }, { on := 6, ground := Go.Ground.phase }, { on := 7, ground := Go.Ground.phase }, { on := 8, ground := Go.Ground.phase }, { on := 9, ground := Go.Ground.phase }, { on := 10, ground := Go.Ground.phase }, { on := 11, ground := Go.Ground.phase }, { on := 12, ground := Go.Ground.phase }, { on := 13, ground := Go.Ground.phase }], guard := none }) (v := ?_) rfl (by kernel_rfl) (by kernel_rfl) (by kernel_rfl) (fun _ _ _ h => h) (Or.inl ⟨by rfl, ?_⟩) (by assumption) ?_
          rotate_left
          · intro wS hSw
            (try dsimp only at hSw)
            go_simp
            (try with_reducible rfl)
          (try simp only [Act.put, List.setIfInBounds_toArray, List.set_cons_zero, List.set_cons_succ])
          refine wpAnyH_ready (rs := [15]) (by kernel_rfl) (by simp) ?_
          refine AllReadyH.cons (o := { dst := none, op := Go.Op.store 52 (Go.Operand.tmp 95) (Go.Operand.tmp 93), type := 0, pos := "law.go:133", after := #[{ on := 14, ground := Go.Ground.data }, { on := 11, ground := Go.Ground.data }, { on := 13, ground := Go.Ground.chain }, { on := 0, ground := Go.Ground.phase }, { on := 1, ground := Go.Ground.phase }, { on := 2, ground := Go.Ground.phase }, { on := 3, ground := Go.Ground.phase }, { on := 4, ground := Go.Ground.phase }, { on := 5, ground := Go.Ground.phase }, { on := 6, ground := Go.Ground.phase }, { on := 7, ground := Go.Ground.phase }, { on := 8, ground := Go.Ground.phase }, { on := 9, ground := Go.Ground.phase }, { on := 10, ground := Go.Ground.phase }, { on := 11, ground := Go.Ground.phase }, { on := 12, ground := Go.Ground.phase }, { on := 13, ground := Go.Ground.phase }], guard := none }) rfl (fun K hK => ?_) AllReadyH.nil
          (refine step_storeM rfl 52 (.tmp 95) (.tmp 93) rfl gm (b * 3) #[.int .u8 ((p a : Int) + 1), .int .u32 5, .slice (some ⟨wA.heap.size + 1 + p a, 0, none⟩) L L] rfl rfl (HM1.out.there hb) info_share3 (one_share _ _ _ _ _ _ _) ?_; have hP_2 := hP_1.then_new (Own.setCells (b := gm) [.int .u8 ((p a : Int) + 1), .int .u32 5, .slice (some ⟨wA.heap.size + 1 + p a, 0, none⟩) L L] (b * 3) W8) hgm3; have HM2 := Lib.hid (HM1.out.set3 (fun q hq => by show (if q = a then _ else _ : List Value).length = 3; split; rfl; exact hC3 q hq) hb (.int .u8 ((p a : Int) + 1)) (.int .u32 5) (.slice (some ⟨wA.heap.size + 1 + p a, 0, none⟩) L L)); have HO2 := Lib.hid (Own.setCells (b := gm) [.int .u8 ((p a : Int) + 1), .int .u32 5, .slice (some ⟨wA.heap.size + 1 + p a, 0, none⟩) L L] (b * 3) W8); obtain ⟨W9, hw9⟩ : ∃ q, W8.setCells gm (b * 3) [.int .u8 ((p a : Int) + 1), .int .u32 5, .slice (some ⟨wA.heap.size + 1 + p a, 0, none⟩) L L] = q := ⟨_, rfl⟩; rw [hw9] at hP_2 HM2 HO2 ⊢; clear hP_1 hw9; skip)
          refine hK.out _ _ ?_ (fun hHeld => ?_)
          · (try dsimp only)
            first | assumption | exact hP_0
          clear hK K
          (try simp only [Act.put, List.setIfInBounds_toArray, List.set_cons_zero, List.set_cons_succ])
          refine wpAnyH_done (by kernel_rfl) ?_ _
          have HP9 := Lib.hid hP_2
          clear hP_2
          have HM9 : Hid (MRow W9 gm N (fun q => shC 5 wA.heap.size L (swp p a b q))) := Lib.hid (HM2.out.congr fun q hq => by
            unfold swp
            by_cases e1 : q = b
            · rw [if_pos e1, if_pos e1]; rfl
            · rw [if_neg e1, if_neg e1]
              by_cases e2 : q = a
              · rw [if_pos e2, if_pos e2]; rfl
              · rw [if_neg e2, if_neg e2])
          have HSR9 : Hid (SR tb wA N L 5 (fun x => shF s d k (x + 1)) W9) := Lib.hid ((HSR7.out.belowB (HO1.out.below (Nat.le_refl _) (Nat.le_of_lt HMR.out.lt)) hgm4).belowB (HO2.out.below (Nat.le_refl _) (Nat.le_of_lt HM1.out.lt)) hgm4)
          have hpl2 := swp_lt hpl ha hb
          have hpi2 := swp_inj hpi ha hb
          clear HM1 HM2 HO1 HO2 HMR HSR7
          go_wp2_with fail
          go_roundw
          case rel => exact ⟨i + 1, swp p a b, by omega, by go_num, hpl2, hpi2, HM9.out, HSR9.out, HP9.out⟩
          case measure => simp [intOf]; omega
        refine AllReadyH.cons (o := { dst := some 93, op := Go.Op.load 52 (Go.Operand.tmp 92), type := 52, pos := "law.go:133", after := #[{ on := 10, ground := Go.Ground.data }], guard := none }) rfl (fun K hK => ?_) AllReadyH.nil
        (refine step_valueG (by rfl) (exec_loadM (x := .tmp 92) (cs := [.int .u8 ((p a : Int) + 1), .int .u32 5, .slice (some ⟨wA.heap.size + 1 + p a, 0, none⟩) L L]) rfl rfl (HMR.out.range hC3 ha) Tryd.underlying52 rfl info_share3) ?_; skip)
        refine hK.out _ _ ?_ (fun hHeld => ?_)
        · (try dsimp only)
          first | assumption | exact hP_0
        clear hK K
        (try simp only [Act.put, List.setIfInBounds_toArray, List.set_cons_zero, List.set_cons_succ])
        refine wpAnyH_ready (rs := [7]) (by kernel_rfl) (by simp) ?_
        refine AllReadyH.cons (o := { dst := some 89, op := Go.Op.load 52 (Go.Operand.tmp 88), type := 52, pos := "law.go:133", after := #[{ on := 6, ground := Go.Ground.data }], guard := none }) rfl (fun K hK => ?_) AllReadyH.nil
        (refine step_valueG (by rfl) (exec_loadM (x := .tmp 88) (cs := [.int .u8 ((p b : Int) + 1), .int .u32 5, .slice (some ⟨wA.heap.size + 1 + p b, 0, none⟩) L L]) rfl rfl (HMR.out.range hC3 hb) Tryd.underlying52 rfl info_share3) ?_; skip)
        refine hK.out _ _ ?_ (fun hHeld => ?_)
        · (try dsimp only)
          first | assumption | exact hP_0
        clear hK K
        (try simp only [Act.put, List.setIfInBounds_toArray, List.set_cons_zero, List.set_cons_succ])
        refine wpAnyH_take (i := 12) (oi := { dst := some 94, op := Go.Op.indexAddr 29 (Go.Operand.tmp 82) (Go.Operand.tmp 83), type := 0, pos := "law.go:133", after := #[{ on := 0, ground := Go.Ground.data }, { on := 1, ground := Go.Ground.data }, { on := 0, ground := Go.Ground.phase }, { on := 1, ground := Go.Ground.phase }, { on := 2, ground := Go.Ground.textOnly Go.Departure.lateStores }, { on := 3, ground := Go.Ground.textOnly Go.Departure.lateStores }, { on := 4, ground := Go.Ground.phase }, { on := 5, ground := Go.Ground.phase }, { on := 6, ground := Go.Ground.phase }, { on := 7, ground := Go.Ground.phase }, { on := 8, ground := Go.Ground.textOnly Go.Departure.lateStores }, { on := 9, ground := Go.Ground.textOnly Go.Departure.lateStores }, { on := 10, ground := Go.Ground.textOnly Go.Departure.lateStoresUnsure }, { on := 11, ground := Go.Ground.phase }], guard := none }) (v := ?_) rfl (by kernel_rfl) (by kernel_rfl) (by kernel_rfl) (fun _ _ _ h => h) (Or.inl ⟨by rfl, ?_⟩) (by assumption) ?_
        rotate_left
        · intro wS hSw
          (try dsimp only at hSw)
          go_simp
          (try with_reducible rfl)
        (try simp only [Act.put, List.setIfInBounds_toArray, List.set_cons_zero, List.set_cons_succ])
        refine wpAnyH_ready (rs := [13]) (by kernel_rfl) (by simp) ?_
        refine AllReadyH.cons (o := { dst := none, op := Go.Op.store 52 (Go.Operand.tmp 94) (Go.Operand.tmp 89), type := 0, pos := "law.go:133", after := #[{ on := 12, ground := Go.Ground.data }, { on := 7, ground := Go.Ground.data }, { on := 0, ground := Go.Ground.phase }, { on := 1, ground := Go.Ground.phase }, { on := 2, ground := Go.Ground.textOnly Go.Departure.lateStores }, { on := 3, ground := Go.Ground.textOnly Go.Departure.lateStores }, { on := 4, ground := Go.Ground.phase }, { on := 5, ground := Go.Ground.phase }, { on := 6, ground := Go.Ground.phase }, { on := 7, ground := Go.Ground.phase }, { on := 8, ground := Go.Ground.textOnly Go.Departure.lateStores }, { on := 9, ground := Go.Ground.textOnly Go.Departure.lateStores }, { on := 10, ground := Go.Ground.textOnly Go.Departure.lateStoresUnsure }, { on := 11, ground := Go.Ground.phase }], guard := none }) rfl (fun K hK => ?_) AllReadyH.nil
        (refine step_storeM rfl 52 (.tmp 94) (.tmp 89) rfl gm (a * 3) #[.int .u8 ((p b : Int) + 1), .int .u32 5, .slice (some ⟨wA.heap.size + 1 + p b, 0, none⟩) L L] rfl rfl (HMR.out.there ha) info_share3 (one_share _ _ _ _ _ _ _) ?_; have hP_1 := hP_0.then_new (Own.setCells (b := gm) [.int .u8 ((p b : Int) + 1), .int .u32 5, .slice (some ⟨wA.heap.size + 1 + p b, 0, none⟩) L L] (a * 3) W7) hgm3; have HM1 := Lib.hid (HMR.out.set3 hC3 ha (.int .u8 ((p b : Int) + 1)) (.int .u32 5) (.slice (some ⟨wA.heap.size + 1 + p b, 0, none⟩) L L)); have HO1 := Lib.hid (Own.setCells (b := gm) [.int .u8 ((p b : Int) + 1), .int .u32 5, .slice (some ⟨wA.heap.size + 1 + p b, 0, none⟩) L L] (a * 3) W7); obtain ⟨W8, hw8⟩ : ∃ q, W7.setCells gm (a * 3) [.int .u8 ((p b : Int) + 1), .int .u32 5, .slice (some ⟨wA.heap.size + 1 + p b, 0, none⟩) L L] = q := ⟨_, rfl⟩; rw [hw8] at hP_1 HM1 HO1 ⊢; clear hP_0 hw8; skip)
        refine hK.out _ _ ?_ (fun hHeld => ?_)
        · (try dsimp only)
          first | assumption | exact hP_0
        clear hK K
        (try simp only [Act.put, List.setIfInBounds_toArray, List.set_cons_zero, List.set_cons_succ])
        refine wpAnyH_take (i := 14) (oi := { dst := some 95, op := Go.Op.indexAddr 29 (Go.Operand.tmp 84) (Go.Operand.tmp 85), type := 0, pos := "law.go:133", after := #[{ on := 2, ground := Go.Ground.data }, { on := 3, ground := Go.Ground.data }, { on := 0, ground := Go.Ground.phase }, { on := 1, ground := Go.Ground.phase }, { on := 2, ground := Go.Ground.phase }, { on := 3, ground := Go.Ground.phase }, { on := 4, ground := Go.Ground.phase }, { on := 5, ground := Go.Ground.phase }, { on := 6, ground := Go.Ground.phase }, { on := 7, ground := Go.Ground.phase }, { on := 8, ground := Go.Ground.phase }, { on := 9, ground := Go.Ground.phase }, { on := 10, ground := Go.Ground.phase }, { on := 11, ground := Go.Ground.phase }, { on := 12, ground := Go.Ground.phase }, { on := 13, ground := Go.Ground.phase }], guard := none }) (v := ?_) rfl (by kernel_rfl) (by kernel_rfl) (by kernel_rfl) (fun _ _ _ h => h) (Or.inl ⟨by rfl, ?_⟩) (by assumption) ?_
        rotate_left
        · intro wS hSw
          (try dsimp only at hSw)
          go_simp
          (try with_reducible rfl)
        (try simp only [Act.put, List.setIfInBounds_toArray, List.set_cons_zero, List.set_cons_succ])
        refine wpAnyH_ready (rs := [15]) (by kernel_rfl) (by simp) ?_
        refine AllReadyH.cons (o := { dst := none, op := Go.Op.store 52 (Go.Operand.tmp 95) (Go.Operand.tmp 93), type := 0, pos := "law.go:133", after := #[{ on := 14, ground := Go.Ground.data }, { on := 11, ground := Go.Ground.data }, { on := 13, ground := Go.Ground.chain }, { on := 0, ground := Go.Ground.phase }, { on := 1, ground := Go.Ground.phase }, { on := 2, ground := Go.Ground.phase }, { on := 3, ground := Go.Ground.phase }, { on := 4, ground := Go.Ground.phase }, { on := 5, ground := Go.Ground.phase }, { on := 6, ground := Go.Ground.phase }, { on := 7, ground := Go.Ground.phase }, { on := 8, ground := Go.Ground.phase }, { on := 9, ground := Go.Ground.phase }, { on := 10, ground := Go.Ground.phase }, { on := 11, ground := Go.Ground.phase }, { on := 12, ground := Go.Ground.phase }, { on := 13, ground := Go.Ground.phase }], guard := none }) rfl (fun K hK => ?_) AllReadyH.nil
        (refine step_storeM rfl 52 (.tmp 95) (.tmp 93) rfl gm (b * 3) #[.int .u8 ((p a : Int) + 1), .int .u32 5, .slice (some ⟨wA.heap.size + 1 + p a, 0, none⟩) L L] rfl rfl (HM1.out.there hb) info_share3 (one_share _ _ _ _ _ _ _) ?_; have hP_2 := hP_1.then_new (Own.setCells (b := gm) [.int .u8 ((p a : Int) + 1), .int .u32 5, .slice (some ⟨wA.heap.size + 1 + p a, 0, none⟩) L L] (b * 3) W8) hgm3; have HM2 := Lib.hid (HM1.out.set3 (fun q hq => by show (if q = a then _ else _ : List Value).length = 3; split; rfl; exact hC3 q hq) hb (.int .u8 ((p a : Int) + 1)) (.int .u32 5) (.slice (some ⟨wA.heap.size + 1 + p a, 0, none⟩) L L)); have HO2 := Lib.hid (Own.setCells (b := gm) [.int .u8 ((p a : Int) + 1), .int .u32 5, .slice (some ⟨wA.heap.size + 1 + p a, 0, none⟩) L L] (b * 3) W8); obtain ⟨W9, hw9⟩ : ∃ q, W8.setCells gm (b * 3) [.int .u8 ((p a : Int) + 1), .int .u32 5, .slice (some ⟨wA.heap.size + 1 + p a, 0, none⟩) L L] = q := ⟨_, rfl⟩; rw [hw9] at hP_2 HM2 HO2 ⊢; clear hP_1 hw9; skip)
        refine hK.out _ _ ?_ (fun hHeld => ?_)
        · (try dsimp only)
          first | assumption | exact hP_0
        clear hK K
        (try simp only [Act.put, List.setIfInBounds_toArray, List.set_cons_zero, List.set_cons_succ])
        refine wpAnyH_done (by kernel_rfl) ?_ _
        have HP9 := Lib.hid hP_2
        clear hP_2
        have HM9 : Hid (MRow W9 gm N (fun q => shC 5 wA.heap.size L (swp p a b q))) := Lib.hid (HM2.out.congr fun q hq => by
          unfold swp
          by_cases e1 : q = b
          · rw [if_pos e1, if_pos e1]; rfl
          · rw [if_neg e1, if_neg e1]
            by_cases e2 : q = a
            · rw [if_pos e2, if_pos e2]; rfl
            · rw [if_neg e2, if_neg e2])
        have HSR9 : Hid (SR tb wA N L 5 (fun x => shF s d k (x + 1)) W9) := Lib.hid ((HSR7.out.belowB (HO1.out.below (Nat.le_refl _) (Nat.le_of_lt HMR.out.lt)) hgm4).belowB (HO2.out.below (Nat.le_refl _) (Nat.le_of_lt HM1.out.lt)) hgm4)
        have hpl2 := swp_lt hpl ha hb
        have hpi2 := swp_inj hpi ha hb
        clear HM1 HM2 HO1 HO2 HMR HSR7
        go_wp2_with fail
        go_roundw
        case rel => exact ⟨i + 1, swp p a b, by omega, by go_num, hpl2, hpi2, HM9.out, HSR9.out, HP9.out⟩
        case measure => simp [intOf]; omega
      · have HMR7 := Lib.hid (HMR.out : MRow wr gm N (fun q => shC 5 wA.heap.size L (p q)))
        have HSR8 : Hid (SR tb wA N L 5 (fun x => shF s d k (x + 1)) wr) := Lib.hid ⟨HSR7.out.blk, HSR7.out.rows, HSR7.out.big, HSR7.out.tab, ⟨HSR7.out.own.os, HSR7.out.own.tape, HSR7.out.own.output, HSR7.out.own.size, HSR7.out.own.block⟩, HSR7.out.low⟩
        have hgt : gm ≠ tb := by omega
        have hks : k1 ≤ N ∧ 1 ≤ L ∧ L ≤ 64 ∧ 2 ≤ k1 ∧ k1 ≤ N ∧ N ≤ 255 := by have := HLD.out.nk; have := HK1.out; have := HLD.out.l1; have := HLD.out.l40; have := HLD.out.k1; have := HLN.out; omega
        have HSH : Hid (Shs tb wr (some ⟨gm, 0, none⟩) N (pS p L (fun x => shF s d k (x + 1)))) := Lib.hid (HMR7.out.shs hgt fun i hi => HSR8.out.isSh (fun _ _ _ _ => shF_lt _ _ _ _ _) (by unfold maxLen; omega) (hpl i hi))
        have HIX : Hid (∀ i, i < N → (pS p L (fun x => shF s d k (x + 1)) i).ix < 256) := Lib.hid fun i hi => by show p i + 1 < 256; have := hpl i hi; have := HLN.out; omega
        have HNE : Hid (needE (pS p L (fun x => shF s d k (x + 1))) N k1 5 = 0) := Lib.hid (pS_need (fun i j hi hj => hpi i j (by omega) (by omega)) hks.1 hks.2.1 hks.2.2.1)
        have HJ : Hid (∀ x, x < 256 → ∀ j, j < L → jnF (pS p L (fun x => shF s d k (x + 1))) x k1 j = shF s d k x j) := Lib.hid fun x hx j hj => by
          rw [← HK1.out]
          exact pS_join (N := N) (fun j hj => (HSEC.out j hj).1) (fun i hi => (HDR.out i hi).1) hj (fun i hi => hpl i (by have := HK1.out; omega)) (by have := HLN.out; omega) (fun i j hi hj => hpi i j (by have := HK1.out; omega) (by have := HK1.out; omega)) hx
        have HCB := Lib.hid (combine_any tb N cm k1 N 5 (some ⟨gm, 0, none⟩) _ wr HSR8.out.tab HSH.out HIX.out HCM.out.1 HCM.out.2 hks.2.2.2.1 hks.2.2.2.2.1 hks.2.2.2.2.2)
        rw [HNE.out] at HCB
        have d0 : wr.cell? ⟨b6, 0, none⟩ = some (.int .i64 (k1 : Int)) := HOR.out.cell (by rw [Blk.cell HP3.out]; rfl) (by have := HN3.out; show b6 ≠ tb; omega)
        have d2 : wr.cell? ⟨b6, 2, none⟩ = some (.int .u32 5) := HOR.out.cell (by rw [Blk.cell HP3.out]; rfl) (by have := HN3.out; show b6 ≠ tb; omega)
        have hlt2 : decide ((i : Int) < (nr : Int)) = false := decide_eq_false (by omega)
        have HKS := Lib.hid hks
        have HPL := Lib.hid hpl
        clear HMR HSR7 hks hpl hpi hi hlt2
        go_wp2_with fail
        refine HCB.out.mono ?_
        intro e w5' hR
        rcases hR with ⟨-, g2, rfl, hg2, hRw, hL5⟩ | ⟨h9, -⟩
        case inr => exact absurd rfl h9
        have hLL : (pS p L (fun x => shF s d k (x + 1)) 0).len = L := rfl
        rw [hLL] at hRw ⊢
        have HRO : Hid (Row w5' g2 L s) := Lib.hid (hRw.congr fun j hj => by rw [HJ.out 0 (by decide) j hj]; exact shF_secret (HSEC.out j hj).1)
        have HSR9 := Lib.hid (HSR8.out.left hL5)
        have HOR5 := Lib.hid (HOR.out.trans hL5.2)
        have HSH5 := Lib.hid (HSH.out.own hL5.2)
        have HG2 : Hid (w3.heap.size ≤ g2) := Lib.hid (Nat.le_trans HOR.out.size hg2)
        obtain ⟨u, hu⟩ := u64_rest K
        obtain ⟨r, hr0⟩ : ∃ x, u % N = x := ⟨_, rfl⟩
        have hr : r < N := by rw [← hr0]; exact Nat.mod_lt _ hN1
        have t1 : (u : Int).tmod (N : Int) = (r : Int) := by rw [Int.tmod_eq_emod_of_nonneg (by omega), ← hr0]; exact (Int.natCast_emod _ _).symm
        have t3 : (u : Int) % (N : Int) = (r : Int) := by rw [← hr0]; exact (Int.natCast_emod _ _).symm
        have t2 : IntKind.u64.wrap (N : Int) = (N : Int) := by
          have h9 := HLN.out
          simp [IntKind.wrap, IntKind.bits, IntKind.signed]; omega
        have t4 : IntKind.i64.wrap (r : Int) = (r : Int) := IntWalk.i64_in _ (by have := HLN.out; omega)
        have t6 : ((N : Int) == 0) = false := by rw [beq_eq_false_iff_ne]; omega
        have t11 : ¬ N = 0 := by omega
        have t7 : (0 : Int) ≤ (r : Int) ∧ (r : Int) < (N : Int) := by omega
        have d0 : w5'.cell? ⟨b6, 0, none⟩ = some (.int .i64 (k1 : Int)) := HOR5.out.cell (by rw [Blk.cell HP3.out]; rfl) (by have := HN3.out; show b6 ≠ tb; omega)
        have d1 : w5'.cell? ⟨b6, 1, none⟩ = some (.int .i64 (N : Int)) := HOR5.out.cell (by rw [Blk.cell HP3.out]; rfl) (by have := HN3.out; show b6 ≠ tb; omega)
        have d2 : w5'.cell? ⟨b6, 2, none⟩ = some (.int .u32 5) := HOR5.out.cell (by rw [Blk.cell HP3.out]; rfl) (by have := HN3.out; show b6 ≠ tb; omega)
        have d3 : w5'.cell? ⟨w.heap.size, 1, none⟩ = some (.int .i64 K) := HOR5.out.cell (by rw [Blk.cell HBX3.out]; rfl) (by have := HN3.out; show w.heap.size ≠ tb; omega)
        obtain ⟨e0, e1, e2⟩ := HSR9.out.cells hr
        obtain ⟨r1, hr1⟩ : ∃ x, r + 1 = x := ⟨_, rfl⟩
        obtain ⟨hd, hhd⟩ : ∃ x, wA.heap.size + 1 + r = x := ⟨_, rfl⟩
        rw [hr1] at e0
        rw [hhd] at e2
        obtain ⟨w6, hw6⟩ : ∃ x, w5'.alloc (.cells #[.int .u8 (r1 : Int), .int .u32 5, .slice (some ⟨hd, 0, none⟩) L L] 52) = x := ⟨_, rfl⟩
        obtain ⟨b17, hb17⟩ : ∃ x, w5'.heap.size = x := ⟨_, rfl⟩
        have hb56 : Below w5'.heap.size w5' w6 := by rw [← hw6]; exact (Below.refl _ _).alloc (Nat.le_refl _) _
        have HX6 : Hid (Blk w6 b17 #[.int .u8 (r1 : Int), .int .u32 5, .slice (some ⟨hd, 0, none⟩) L L] 52) := Lib.hid (by rw [← hw6, ← hb17]; exact Blk.new _ _ _)
        have HSR6 := Lib.hid (HSR9.out.later hb56)
        have HOR6 := Lib.hid (HOR5.out.then_fresh hb56)
        have HRO6 := Lib.hid (HRO.out.later hb56)
        have hr18 : 1 ≤ r1 ∧ r1 ≤ N := by omega
        have HAT := Lib.hid (at_any tb N cm k1 N 5 r1 (some ⟨gm, 0, none⟩) _ w6 HSR6.out.tab (HSH5.out.later hb56) HIX.out HCM.out.1 HCM.out.2 HKS.out.2.2.2.1 HKS.out.2.2.2.2.1 HKS.out.2.2.2.2.2 hr18.1 hr18.2)
        rw [HNE.out] at HAT
        have f0 : w6.cell? ⟨b6, 0, none⟩ = some (.int .i64 (k1 : Int)) := HOR6.out.cell (by rw [Blk.cell HP3.out]; rfl) (by have := HN3.out; show b6 ≠ tb; omega)
        have f1 : w6.cell? ⟨b6, 1, none⟩ = some (.int .i64 (N : Int)) := HOR6.out.cell (by rw [Blk.cell HP3.out]; rfl) (by have := HN3.out; show b6 ≠ tb; omega)
        have f2 : w6.cell? ⟨b6, 2, none⟩ = some (.int .u32 5) := HOR6.out.cell (by rw [Blk.cell HP3.out]; rfl) (by have := HN3.out; show b6 ≠ tb; omega)
        have x0 : w6.cell? ⟨b17, 0, none⟩ = some (.int .u8 (r1 : Int)) := by rw [Blk.cell HX6.out]; rfl
        have HR1 := Lib.hid (⟨hr, hr1, hhd⟩ : r < N ∧ r + 1 = r1 ∧ wA.heap.size + 1 + r = hd)
        have HB17 : Hid (w3.heap.size ≤ b17) := Lib.hid (by have := HOR5.out.size; omega)
        clear hRw hg2 hL5 HCB hr0 hr1 hhd hr18 hb56 HSR8 HSH HOR HRO HSR9 hLL
        go_wp2_with fail
        refine HAT.out.mono ?_
        intro e w7 hR
        rcases hR with ⟨-, g3, rfl, hg3, hRw, hL7⟩ | ⟨h9, -⟩
        case inr => exact absurd rfl h9
        have hLL : (pS p L (fun x => shF s d k (x + 1)) 0).len = L := rfl
        rw [hLL] at hRw ⊢
        have HO7 := Lib.hid (HOR6.out.trans hL7.2)
        obtain ⟨w8, hw8⟩ : ∃ x, w7.alloc (.cells #[.int .u8 (r1 : Int), .int .u32 5, .slice (some ⟨g3, 0, none⟩) L L] 52) = x := ⟨_, rfl⟩
        obtain ⟨b18, hb18⟩ : ∃ x, w7.heap.size = x := ⟨_, rfl⟩
        have hb78 : Below w7.heap.size w7 w8 := by rw [← hw8]; exact (Below.refl _ _).alloc (Nat.le_refl _) _
        have y0 : w8.cell? ⟨b18, 0, none⟩ = some (.int .u8 (r1 : Int)) := by rw [← hw8, ← hb18]; exact World.cell?_alloc_mark _ _ _ _ _
        have y2 : w8.cell? ⟨b18, 2, none⟩ = some (.slice (some ⟨g3, 0, none⟩) L L) := by rw [← hw8, ← hb18]; exact World.cell?_alloc_mark _ _ _ _ _
        have hX8 := Blk.below (hL7.2.blk HX6.out (by have := HB17.out; omega)) hb78 (Blk.lt (hL7.2.blk HX6.out (by have := HB17.out; omega)))
        have x0 : w8.cell? ⟨b17, 0, none⟩ = some (.int .u8 (r1 : Int)) := by rw [Blk.cell hX8]; rfl
        have x2 : w8.cell? ⟨b17, 2, none⟩ = some (.slice (some ⟨hd, 0, none⟩) L L) := by rw [Blk.cell hX8]; rfl
        have HO8 := Lib.hid (HO7.out.then_fresh hb78)
        have hv1 : (convert 22 9 (.slice (some ⟨g2, 0, none⟩) L L)).run Tryd.prog w8 = .ok (.string (strF L s)) w8 := Bytes.conv (((HRO6.out.own hL7.2 (by have := HG2.out; omega)).later hb78).bytes fun j hj => (HSEC.out j hj).1)
        have hv2 : (convert 22 9 (.slice (some ⟨sb, so, none⟩) L cs)).run Tryd.prog w8 = .ok (.string (strF L s)) w8 := Bytes.conv (HSEC.out.own HO8.out (Apart.of_ne HN3.out.1))
        have hv3 : (convert 22 9 (.slice (some ⟨g3, 0, none⟩) L L)).run Tryd.prog w8 = .ok (.string (strF L (shF s d k r1))) w8 := Bytes.conv (((hRw.congr fun j hj => HJ.out r1 (by have := HR1.out; have := HLN.out; omega) j hj).later hb78).bytes fun j hj => shF_lt _ _ _ _ _)
        have hv4 : (convert 22 9 (.slice (some ⟨hd, 0, none⟩) L L)).run Tryd.prog w8 = .ok (.string (strF L (shF s d k r1))) w8 := Bytes.conv (by
          have h9 := (((HSR6.out.left hL7).later hb78).rows r HR1.out.1).bytes fun j hj => shF_lt _ _ _ _ _
          rw [HR1.out.2.1, HR1.out.2.2] at h9
          exact h9)
        generalize strF L s = S1 at *
        generalize strF L (shF s d k r1) = S2 at *
        have HBE := Lib.hid (HB3.out.trans (HO8.out.low HN3.out.2.2.2.2 HB3.out.size))
        have HSU := Lib.hid (sure03 w8 (HG.out.below HBE.out HG.out.2))
        clear hRw hg3 hL7 HAT hb78 hX8 hLL
        go_wp2_with fail
        refine HSU.out.mono ?_
        rintro e w9 ⟨rfl, hb⟩
        have HBF := Lib.hid (HBE.out.trans (hb.mono HBE.out.size))
        clear hb
        go_wp2_with fail
        go_ret
        exact ⟨rfl, HBF.out⟩
end Go.Proofs.YtmhofofidmbgfaaDoor
