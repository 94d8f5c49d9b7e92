/- Part of the proof: what stands here serves the walks of the functions that the statement calls. -/
import Derived.Test.YtncfocjmdecapaaGreatDoorY09
namespace Go.Proofs.YtncfocjmdecapaaGreatDoor
set_option linter.unusedVariables false
set_option linter.unusedSimpArgs false
open Go.RowKit
set_option maxRecDepth 100000
set_option maxHeartbeats 8000000
structure GVS (N : Nat → Nat) (S : Nat → Nat → Nat) (b2 b3 base : Nat) (w : World) (i : Nat) (v r : Value) (A : World) : Prop where
 row : TO 37 A base v i N S
 c5 : Blk A b3 #[r] 32
 c2 : Blk A b2 #[.slice none 0 0] 32
 bel : Below w.heap.size w A
 sz : base ≤ A.heap.size
theorem GVS.later {N : Nat → Nat} {S : Nat → Nat → Nat} {b2 b3 base i : Nat} {v r : Value} {w A A' : World} (h : GVS N S b2 b3 base w i v r A) (hb : Below A.heap.size A A') : GVS N S b2 b3 base w i v r A' :=
 ⟨h.row.later hb, Blk.below h.c5 hb (Blk.lt h.c5), Blk.below h.c2 hb (Blk.lt h.c2), h.bel.trans (hb.mono h.bel.size), Nat.le_trans h.sz hb.size⟩
theorem GVS.grew {N : Nat → Nat} {S : Nat → Nat → Nat} {b2 b3 base i i' : Nat} {v v' r : Value} {w A A' : World} (h : GVS N S b2 b3 base w i v r A) (hB : w.heap.size ≤ b2 ∧ b2 < b3 ∧ b3 < base) (hg : A.grownBy A' v.ownBlock) (hb : Below base A A') (hr : TO 37 A' base v' i' N S) : GVS N S b2 b3 base w i' v' r A' :=
 ⟨hr, Blk.below h.c5 hb hB.2.2, Blk.below h.c2 hb (by omega), h.bel.trans (hb.mono (by omega)), Nat.le_trans h.sz hg.size⟩
theorem GVS.put {N : Nat → Nat} {S : Nat → Nat → Nat} {b2 b3 base i : Nat} {v r : Value} {w A : World} (h : GVS N S b2 b3 base w i v r A) (hB : w.heap.size ≤ b2 ∧ b2 < b3 ∧ b3 < base) : GVS N S b2 b3 base w i v v (A.setCell ⟨b3, 0, none⟩ v) := by
 have hO := (Own.refl b3 A).set 0 v
 exact ⟨h.row.own hO hB.2.2, h.c5.set 0 v, hO.blk h.c2 (by omega), h.bel.trans (hO.below (by omega) h.bel.size), Nat.le_trans h.sz hO.size⟩
theorem give_any (n cs : Nat) (oa : Option Addr) (N : Nat → Nat) (S : Nat → Nat → Nat) (w : World) (hT : TL w oa n N S) (hn : n ≤ 40) :
  Calls Tryz.prog 14 #[.slice oa n cs] w fun e w' => ∃ o c, e = .returned (.agg #[.slice o n c]) ∧ TL w' o n N S ∧ n ≤ c ∧ (∀ a, o = some a → w.heap.size ≤ a.block) ∧ Below w.heap.size w w' := by
 obtain ⟨b2, hb2⟩ := zX w.heap.size
 obtain ⟨b3, hb3⟩ := zX (b2 + 1)
 obtain ⟨base, hbase⟩ := zX (b3 + 1)
 obtain ⟨w1, hw1⟩ := zX ((w.alloc (.cells #[.slice none 0 0] 32)).alloc (.cells #[.slice none 0 0] 32))
 have hD1 : GVS N S b2 b3 base w 0 (.slice none 0 0) (.slice none 0 0) w1 := by
  refine ⟨TO.nil _ _ _ _ _, ?_, ?_, ?_, ?_⟩
  ·rw [← hw1, ← hb3, ← hb2]; have h9 := Blk.new (w.alloc (.cells #[.slice none 0 0] 32)) #[.slice none 0 0] 32; simpa using h9
  ·rw [← hw1, ← hb2]; exact (Blk.new _ _ _).alloc _
  ·rw [← hw1]; exact (zA).alloc (by simp) _
  ·rw [← hw1, ← hbase, ← hb3, ← hb2]; simp
 have HBB := zh (show w.heap.size ≤ b2 ∧ b2 < b3 ∧ b3 < base by omega)
 have HD1 := zh hD1
 have HT := zh hT
 have HN := zh hn
 clear hD1 hT hn
 go_enter Tryz.func14, Tryz.ntmps14
 go_wp2_with fail
 clear hw1 hb2 hb3 hbase
 go_loopw [4] (fun y wr => ∃ (i : Nat) (v : Value), i ≤ n ∧ y = .int .i64 (i : Int) ∧ GVS N S b2 b3 base w i v v wr) (fun y _ => n - (intOf y).toNat)
 case atStart => exact ⟨0, _, Nat.zero_le _, rfl, HD1.out⟩
 case round =>
  obtain ⟨i, v, hi, rfl, hDwr⟩ := hrel
  have HDW := zh hDwr
  by_cases hlt : i < n
  ·have HI := zh (show i < n ∧ i < 40 by have := HN.out; omega)
   have za1 : (i : Int) < (n : Int) := by omega
   have za2 : decide ((i : Int) < (n : Int)) = true := decide_eq_true za1
   have za7 : i < n := by omega
   have za8 : decide (i < n) = true := decide_eq_true za7
   have i0 : (0 : Int) ≤ (i : Int) := by omega
   have k4 : IntKind.i64.wrap ((i : Int) + 1) = ((i + 1 : Nat) : Int) := by have := HN.out; rw [IntWalk.i64_in _ (by omega)]; omega
   obtain ⟨bb, off, e, _⟩ := HT.out i hlt
   subst e
   obtain ⟨C, hC⟩ := zX ((tmL (N i) (S i)).toArray)
   have HCC := zh hC
   have HIF : Hid ((Tryz.prog.info? 76).map (·.size) = some C.size) := zh (by rw [← hC, tm_size]; exact info_t2)
   have HBS : Hid (∀ w, (Instr.buildSlice 30 1 #[(0, .agg C)]).run Tryz.prog w = .ok (.slice (some ⟨w.heap.size, 0, none⟩) 1 1) (w.alloc (.cells C 37))) := zh (by rw [← hC]; exact bs_t1 _ _)
   have HRF : Hid (∀ A, Below w.heap.size w A → A.rangeAt bb (off + i * 33) C.toList) := zh fun A hA j u hu => by
    obtain ⟨_, _, e, hr⟩ := (HT.out.later hA) i hlt
    cases e
    rw [← hC] at hu
    exact hr j u (by simpa using hu)
   have HCG : Hid (∀ (A : World) (v' : Value), TO 37 A base v' (i + 1) (catN i N (fun _ => N i)) (catT i S (fun _ => S i)) → TO 37 A base v' (i + 1) N S) := zh fun A v' h => h.congr fun q hq => by
    unfold catN catT
    by_cases e : q < i
    ·rw [if_pos e, if_pos e]; exact ⟨rfl, rfl⟩
    ·obtain rfl : q = i := by omega
     rw [if_neg e, if_neg e]
     exact ⟨rfl, rfl⟩
   clear hC hlt hi hDwr
   go_upto_region 5 with fail
   have hDW0 : GVS N S b2 b3 base w i v v wr.drew := HDW.out.later (Below.refl _ _).drew
   have hSW0 : wr.drew.rangeAt bb (off + i * 33) C.toList := HRF.out _ hDW0.bel
   refine wp_region_held_drew (S := (fun A => A.rangeAt bb (off + i * 33) C.toList)) (by kernel_rfl) ?_ (fun hHeld => ?_)
   ·(try dsimp only)
    (first | assumption | (dsimp only; assumption))
   generalize wr.drew = W0 at *
   refine wT 0 ?_ rfl ?_ ?_
   rotate_left
   ·intro wS hSw
    (try dsimp only at hSw)
    go_simp
    (try with_reducible rfl)
   (try simp only [Act.put, zS])
   refine wT 2 ?_ rfl ?_ ?_
   rotate_left
   ·intro wS hSw
    (try dsimp only at hSw)
    go_simp
    (try with_reducible rfl)
   (try simp only [Act.put, zS])
   refine wT 3 ?_ rfl ?_ ?_
   rotate_left
   ·intro wS hSw
    (try dsimp only at hSw)
    go_simp
    (try with_reducible rfl)
   (try simp only [Act.put, zS])
   refine wT 4 ?_ rfl ?_ ?_
   rotate_left
   ·intro wS hSw
    (try dsimp only at hSw)
    go_simp
    (try with_reducible rfl)
   (try simp only [Act.put, zS])
   refine wT 5 ?_ rfl ?_ ?_
   rotate_left
   ·intro wS hSw
    (refine exec_loadA (x := .tmp 15) (C := C) ?_ ?_ hSw Tryz.underlying76 rfl HIF.out <;> rfl)
   (try simp only [Act.put, zS])
   refine wR [1, 6] ?_
   refine aC rfl (fun K hK => ?_) ?_
   ·skip
    (have c5 : W0.cell? ⟨b3, 0, none⟩ = some v := (by rw [Blk.cell hDW0.c5]; rfl); go_simp; clear c5; skip)
    refine hK.out _ _ ?_ fun hHeld => ?_
    ·(try dsimp only)
     (first | assumption | (dsimp only; assumption))
    clear hK K
    (try simp only [Act.put, zS])
    refine wR [6] ?_
    refine aN rfl fun K hK => ?_
    (refine step_bs1 rfl (.tmp 16) rfl C rfl HBS.out ?_; obtain ⟨VBx1, hw⟩ := zX (W0.alloc (.cells C 37)); rw [hw]; have hv : Below W0.heap.size W0 VBx1 := (by rw [← hw]; exact zA); have hDVBx1 := hDW0.later hv; have HTN : Hid (TL VBx1 (some ⟨W0.heap.size, 0, none⟩) 1 (fun _ => N i) (fun _ => S i)) := zh (by have h9 : Blk VBx1 W0.heap.size C 37 := (by rw [← hw]; exact Blk.new _ _ _); rw [← HCC.out] at h9; exact TL.one h9); have hSVBx1 : VBx1.rangeAt bb (off + i * 33) C.toList := HRF.out _ hDVBx1.bel; clear hv hw; skip)
    refine hK.out _ _ ?_ fun hHeld => ?_
    ·(try dsimp only)
     (first | assumption | (dsimp only; assumption))
    clear hK K
    (try simp only [Act.put, zS])
    refine wR [7] ?_
    refine aN rfl fun K hK => ?_
    (refine step_TO und_ts info_f1 rfl (.tmp 12) (.tmp 17) rfl base v i 1 1 N (fun _ => N i) S (fun _ => S i) (some ⟨W0.heap.size, 0, none⟩) VBx1 rfl hDVBx1.row rfl HTN.out (fun e => by cases e) (by have := HI.out; omega) hDVBx1.sz ?_; intro v2 W2 hto2 hb2 hg2; have hD2 := hDVBx1.grew HBB.out hg2 hb2 (HCG.out _ _ hto2); obtain ⟨o2, cp2, hv2, -, -, -, -, -⟩ := hto2.out; subst hv2; have hSW2 : W2.rangeAt bb (off + i * 33) C.toList := HRF.out _ hD2.bel; clear hto2 hb2 hg2; skip)
    refine hK.out _ _ ?_ fun hHeld => ?_
    ·(try dsimp only)
     (first | assumption | (dsimp only; assumption))
    clear hK K
    (try simp only [Act.put, zS])
    refine wT 8 ?_ rfl ?_ ?_
    rotate_left
    ·intro wS hSw
     (try dsimp only at hSw)
     go_simp
     (try with_reducible rfl)
    (try simp only [Act.put, zS])
    refine wR [9] ?_
    refine aN rfl fun K hK => ?_
    (have c5 : W2.cell? ⟨b3, 0, none⟩ = some v := (by rw [Blk.cell hD2.c5]; rfl); have f5 : W2.frozen? ⟨b3, 0, none⟩ = false := Blk.free hD2.c5 _; go_simp; have hD3 := hD2.put HBB.out; have hSW3 := HRF.out _ hD3.bel; clear c5 f5; skip)
    refine hK.out _ _ ?_ fun hHeld => ?_
    ·(try dsimp only)
     (first | assumption | (dsimp only; assumption))
    clear hK K
    (try simp only [Act.put, zS])
    refine wpAnyH_done (by kernel_rfl) ?_ _
    have HD3 := zh hD3
    clear hD3 hSW3 hD2 hSW2
    go_wp2_with fail
    go_roundw
    case rel => exact ⟨i + 1, _, HI.out.1, by first | rfl | go_num, HD3.out⟩
    case measure => have := HI.out.1; simp [intOf]; omega
   refine aN rfl fun K hK => ?_
   (refine step_bs1 rfl (.tmp 16) rfl C rfl HBS.out ?_; obtain ⟨VBx6, hw⟩ := zX (W0.alloc (.cells C 37)); rw [hw]; have hv : Below W0.heap.size W0 VBx6 := (by rw [← hw]; exact zA); have hDVBx6 := hDW0.later hv; have HTN : Hid (TL VBx6 (some ⟨W0.heap.size, 0, none⟩) 1 (fun _ => N i) (fun _ => S i)) := zh (by have h9 : Blk VBx6 W0.heap.size C 37 := (by rw [← hw]; exact Blk.new _ _ _); rw [← HCC.out] at h9; exact TL.one h9); have hSVBx6 : VBx6.rangeAt bb (off + i * 33) C.toList := HRF.out _ hDVBx6.bel; clear hv hw; skip)
   refine hK.out _ _ ?_ fun hHeld => ?_
   ·(try dsimp only)
    (first | assumption | (dsimp only; assumption))
   clear hK K
   (try simp only [Act.put, zS])
   refine wR [1] ?_
   refine aN rfl fun K hK => ?_
   (have c5 : VBx6.cell? ⟨b3, 0, none⟩ = some v := (by rw [Blk.cell hDVBx6.c5]; rfl); go_simp; clear c5; skip)
   refine hK.out _ _ ?_ fun hHeld => ?_
   ·(try dsimp only)
    (first | assumption | (dsimp only; assumption))
   clear hK K
   (try simp only [Act.put, zS])
   refine wR [7] ?_
   refine aN rfl fun K hK => ?_
   (refine step_TO und_ts info_f1 rfl (.tmp 12) (.tmp 17) rfl base v i 1 1 N (fun _ => N i) S (fun _ => S i) (some ⟨W0.heap.size, 0, none⟩) VBx6 rfl hDVBx6.row rfl HTN.out (fun e => by cases e) (by have := HI.out; omega) hDVBx6.sz ?_; intro v2 W2 hto2 hb2 hg2; have hD2 := hDVBx6.grew HBB.out hg2 hb2 (HCG.out _ _ hto2); obtain ⟨o2, cp2, hv2, -, -, -, -, -⟩ := hto2.out; subst hv2; have hSW2 : W2.rangeAt bb (off + i * 33) C.toList := HRF.out _ hD2.bel; clear hto2 hb2 hg2; skip)
   refine hK.out _ _ ?_ fun hHeld => ?_
   ·(try dsimp only)
    (first | assumption | (dsimp only; assumption))
   clear hK K
   (try simp only [Act.put, zS])
   refine wT 8 ?_ rfl ?_ ?_
   rotate_left
   ·intro wS hSw
    (try dsimp only at hSw)
    go_simp
    (try with_reducible rfl)
   (try simp only [Act.put, zS])
   refine wR [9] ?_
   refine aN rfl fun K hK => ?_
   (have c5 : W2.cell? ⟨b3, 0, none⟩ = some v := (by rw [Blk.cell hD2.c5]; rfl); have f5 : W2.frozen? ⟨b3, 0, none⟩ = false := Blk.free hD2.c5 _; go_simp; have hD3 := hD2.put HBB.out; have hSW3 := HRF.out _ hD3.bel; clear c5 f5; skip)
   refine hK.out _ _ ?_ fun hHeld => ?_
   ·(try dsimp only)
    (first | assumption | (dsimp only; assumption))
   clear hK K
   (try simp only [Act.put, zS])
   refine wpAnyH_done (by kernel_rfl) ?_ _
   have HD3 := zh hD3
   clear hD3 hSW3 hD2 hSW2
   go_wp2_with fail
   go_roundw
   case rel => exact ⟨i + 1, _, HI.out.1, by first | rfl | go_num, HD3.out⟩
   case measure => have := HI.out.1; simp [intOf]; omega
  ·obtain rfl : i = n := by omega
   have za1 : ¬ (i : Int) < (i : Int) := by omega
   have za2 : decide ((i : Int) < (i : Int)) = false := decide_eq_false za1
   have za7 : ¬ i < i := by omega
   have za8 : decide (i < i) = false := decide_eq_false za7
   obtain ⟨o, c, rfl, hnc, hmx, hno, hbl, hTL⟩ := hDwr.row.out
   have c5 : wr.cell? ⟨b3, 0, none⟩ = some (.slice o i c) := by rw [Blk.cell hDwr.c5]; rfl
   have c2 : wr.cell? ⟨b2, 0, none⟩ = some (.slice none 0 0) := by rw [Blk.cell hDwr.c2]; rfl
   have f2 : wr.frozen? ⟨b2, 0, none⟩ = false := Blk.free hDwr.c2 0
   have HTL := zh (And.intro hTL (And.intro hbl hnc))
   clear hDwr hnc hmx hno hbl hTL
   go_wp2_with fail
   have hO := (Own.refl b2 wr).set 0 (.slice o i c)
   have hbb := HBB.out
   have HR9 : Hid (Blk (wr.setCell ⟨b2, 0, none⟩ (.slice o i c)) b2 #[.slice o i c] 32) := zh (HDW.out.c2.set 0 _)
   have HEX : Hid (∃ o' c', (Ending.returned (.agg #[.slice o i c])) = .returned (.agg #[.slice o' i c']) ∧ TL (wr.setCell ⟨b2, 0, none⟩ (.slice o i c)) o' i N S ∧ i ≤ c' ∧ (∀ a, o' = some a → w.heap.size ≤ a.block) ∧ Below w.heap.size w (wr.setCell ⟨b2, 0, none⟩ (.slice o i c))) := zh ⟨o, c, rfl, HTL.out.1.away hO (fun a ha => by have := (HTL.out.2.1 a ha).1; omega), HTL.out.2.2, fun a ha => by have := (HTL.out.2.1 a ha).1; omega, HDW.out.bel.trans (hO.below (by omega) HDW.out.bel.size)⟩
   refine bodyPost_ret (v := .agg #[.slice o i c]) ?_ rfl HEX.out
   exact results_cell_row Tryz.results14 _ _ b2 32 #[.slice o i c] (0, 0) _ rfl HR9.out Tryz.underlying32 rfl (info_rg _)
open Classical in
noncomputable def mayT (n : Nat) (N : Nat → Nat) : Bool := decide (OkT n N)
open Classical in
theorem mayT_ok {n : Nat} {N : Nat → Nat} (h : OkT n N) : mayT n N = true := by unfold mayT; exact decide_eq_true h
open Classical in
theorem mayT_no {n : Nat} {N : Nat → Nat} (h : ¬ OkT n N) : mayT n N = false := by unfold mayT; exact decide_eq_false h
theorem may_any (n cs : Nat) (oa : Option Addr) (N : Nat → Nat) (S : Nat → Nat → Nat) (w : World) (hT : TL w oa n N S) (hN : ∀ i, i < n → N i < 4294967296) (hn : n < 1000000) :
    Calls Tryz.prog 51 #[.slice oa n cs] w fun e w' => e = .returned (.bool (mayT n N)) ∧ Below w.heap.size w w' := by
  have HT := zh hT
  have HNL := zh hN
  have HN := zh hn
  clear hT hN hn
  go_enter Tryz.func51, Tryz.ntmps51
  go_wp2_with fail
  go_loopw [3] (fun x wr => ∃ i : Nat, i ≤ n ∧ x = .int .i64 (i : Int) ∧ (∀ j, j < i → N j = j + 1) ∧ Below w.heap.size w wr) (fun x _ => n - (intOf x).toNat)
  case atStart => exact ⟨0, Nat.zero_le _, rfl, fun j hj => absurd hj (Nat.not_lt_zero _), Below.refl _ _⟩
  case round =>
    obtain ⟨i, hi, rfl, hok, hbw⟩ := hrel
    have HOK := zh hok
    have HBW := zh hbw
    by_cases hlt : i < n
    · have i1 : (i : Int) < (n : Int) := by omega
      have i0 : (0 : Int) ≤ (i : Int) := by omega
      have k4 : IntKind.i64.wrap ((i : Int) + 1) = ((i + 1 : Nat) : Int) := by have := HN.out; rw [IntWalk.i64_in _ (by omega)]; omega
      obtain ⟨b, off, e, c0⟩ := (HT.out.later hbw).cell0 hlt
      subst e
      obtain ⟨ni, hni⟩ := zX (N i)
      have hnl := HNL.out i hlt
      rw [hni] at c0 hnl
      have k5 : IntKind.i64.wrap (ni : Int) = (ni : Int) := IntWalk.i64_in _ (by omega)
      have HI := zh (And.intro hlt hni)
      by_cases hq : ni = i + 1
      · skip
        have d1 : (ni : Int) = ((i + 1 : Nat) : Int) := by omega
        have d2 : decide ((ni : Int) = ((i + 1 : Nat) : Int)) = true := decide_eq_true d1
        have d3 : ((ni : Int) == ((i + 1 : Nat) : Int)) = true := by simp only [beq_iff_eq]; exact d1
        clear hok hbw hlt hi hni hnl
        go_wp2_with fail
        go_roundw
        case rel => exact ⟨i + 1, HI.out.1, by first | rfl | go_num, fun j hj => (by
          rcases Nat.lt_succ_iff_lt_or_eq.1 hj with h | h
          · exact HOK.out j h
          · rw [h, HI.out.2, hq]), HBW.out⟩
        case measure => have := HI.out.1; simp [intOf]; omega
      · skip
        have d1 : ¬ (ni : Int) = ((i + 1 : Nat) : Int) := by omega
        have d2 : decide ((ni : Int) = ((i + 1 : Nat) : Int)) = false := decide_eq_false d1
        have d3 : ((ni : Int) == ((i + 1 : Nat) : Int)) = false := by simp only [beq_eq_false_iff_ne]; exact d1
        have HNO : Hid (mayT n N = false) := zh (mayT_no fun h => hq (by have := h.2.2 i hlt; omega))
        clear hok hbw hlt hi hni hnl
        go_wp2_with fail
        go_ret
        exact ⟨by rw [HNO.out]; rfl, HBW.out⟩
    · obtain rfl : i = n := by omega
      have za1 : ¬ (i : Int) < (i : Int) := by omega
      have za2 : decide ((i : Int) < (i : Int)) = false := decide_eq_false za1
      have za7 : ¬ i < i := by omega
      have za8 : decide (i < i) = false := decide_eq_false za7
      by_cases g1 : 1 ≤ i
      · have d1 : (1 : Int) ≤ (i : Int) := by omega
        by_cases g2 : i ≤ 16
        · have d2 : (i : Int) ≤ 16 := by omega
          have HYE : Hid (mayT i N = true) := zh (mayT_ok ⟨g1, g2, HOK.out⟩)
          clear hok hbw
          go_wp2_with fail
          go_ret
          exact ⟨by rw [HYE.out]; rfl, HBW.out⟩
        · have d2 : ¬ (i : Int) ≤ 16 := by omega
          have d3 : decide ((i : Int) ≤ 16) = false := decide_eq_false d2
          have HNO : Hid (mayT i N = false) := zh (mayT_no fun h => g2 h.2.1)
          clear hok hbw
          go_wp2_with fail
          go_ret
          exact ⟨by rw [HNO.out]; rfl, HBW.out⟩
      · have d1 : ¬ (1 : Int) ≤ (i : Int) := by omega
        have d3 : decide ((1 : Int) ≤ (i : Int)) = false := decide_eq_false d1
        have HNO : Hid (mayT i N = false) := zh (mayT_no fun h => g1 h.1)
        clear hok hbw
        go_wp2_with fail
        go_ret
        exact ⟨by rw [HNO.out]; rfl, HBW.out⟩
theorem items32d (d : Nat) (f : Nat → Nat) (w : World) : ∀ is : List Nat, (∀ i ∈ is, i < 32) → (Op.eqItems (d + 1) 5 1 (rowC 32 f).toArray (rowC 32 f).toArray is).run Tryz.prog w = .ok true w
 | [], _ => rfl
 | i :: is, h => by
  have hi : i < 32 := h i (by simp)
  have p1 : (rowC 32 f).toArray[i * 1]? = some (.int .u8 (f i : Nat)) := by simpa using rowC_get f hi
  have hu : Tryz.prog.underlying 5 = some (.int .u8) := Tryz.underlying5
  simp only [Op.eqItems, Sem.run_bind, run_part_plain w plain_u8 p1, Result.andThen_ok, run_equalIn_int w d _ .u8 .u8 _ _ hu]
  have ih := items32d d f w is (fun j hj => h j (by simp [hj]))
  have : ((f i : Int) == (f i : Int)) = true := by simp
  rw [this]
  simp [ih]
theorem eq32d (d : Nat) (f : Nat → Nat) (w : World) : (Op.equalIn (d + 2) 22 (.agg (rowC 32 f).toArray) (.agg (rowC 32 f).toArray)).run Tryz.prog w = .ok true w := by
 obtain ⟨i, hi⟩ : ∃ i, Tryz.prog.info? 5 = some i := ⟨_, rfl⟩
 rw [run_equalIn_array w (d + 1) _ _ (e := 5) (n := 32) (t := 22) Tryz.underlying22 hi, cells_u8]
 exact items32d d f w _ (fun i hi => List.mem_range.1 hi)
theorem plain_u32 : Tryz.prog.plainKey 23 = true := by kernel_rfl
theorem part_key (n : Nat) (S : Nat → Nat) (w : World) : (part 22 (tmL n S).toArray 1).run Tryz.prog w = .ok (.agg (rowC 32 S).toArray) w := by kernel_rfl
theorem und_tm : Tryz.prog.underlying 37 = some (.struct (Tryz.prog.fieldsOf 37)) := by kernel_rfl
theorem stood_tm : Tryz.prog.stoodInHeld 37 = false := by kernel_rfl
theorem fields_tm : (Tryz.prog.fieldsOf 37).toList.map (fun f => (f.type, f.offset, f.name == "_")) = [(23, 0, false), (22, 1, false)] := by kernel_rfl
theorem eqFields_tm (d : Nat) (xs ys : Array Value) (w : World) (fs : List Field) (h : fs.map (fun f => (f.type, f.offset, f.name == "_")) = [(23, 0, false), (22, 1, false)]) (a b : Value)
  (q0 : (part 23 xs 0).run Tryz.prog w = .ok a w) (q1 : (part 22 xs 1).run Tryz.prog w = .ok b w) (r0 : (part 23 ys 0).run Tryz.prog w = .ok a w) (r1 : (part 22 ys 1).run Tryz.prog w = .ok b w)
  (e0 : (Op.equalIn d 23 a a).run Tryz.prog w = .ok true w) (e1 : (Op.equalIn d 22 b b).run Tryz.prog w = .ok true w) : (Op.eqFields d xs ys fs).run Tryz.prog w = .ok true w := by
 rcases fs with _ | ⟨f0, _ | ⟨f1, _ | ⟨f2, fs⟩⟩⟩
 ·cases h
 ·simp at h
 ·simp only [List.map_cons, List.map_nil, List.cons.injEq, Prod.mk.injEq, and_true] at h
  obtain ⟨⟨h1, h2, h3⟩, h4, h5, h6⟩ := h
  have n0 : f0.name ≠ "_" := by simpa using h3
  have n1 : f1.name ≠ "_" := by simpa using h6
  simp only [Op.eqFields, ne_eq, n0, n1, not_false_eq_true, if_true, Sem.run_bind, h1, h2, h4, h5, q0, q1, r0, r1, e0, e1, Result.andThen_ok, Bool.not_true, Bool.false_eq_true, if_false, Sem.run_pure]
 ·simp at h
theorem eqT (n : Nat) (S : Nat → Nat) (w : World) : (Op.equalIn 10000 37 (.agg (tmL n S).toArray) (.agg (tmL n S).toArray)).run Tryz.prog w = .ok true w := by
 rw [run_equalIn_struct w 9999 _ _ _ und_tm stood_tm]
 have p0 : (tmL n S).toArray[0]? = some (.int .u32 (n : Int)) := rfl
 have hu : Tryz.prog.underlying 23 = some (.int .u32) := by kernel_rfl
 have q0 := run_part_plain w plain_u32 p0
 exact eqFields_tm 9999 _ _ w _ fields_tm _ _ q0 (part_key n S w) q0 (part_key n S w) (by rw [run_equalIn_int w 9998 _ .u32 .u32 _ _ hu]; simp) (eq32d 9997 S w)
theorem guardT : Tryz.prog.eqGuardType Tryz.prog.depth 37 = false := by kernel_rfl
theorem exec_neqT {o : Oper} {a : Act} {w : World} {x y : Operand} {r : TypeId} {C D : Array Value} {b : Bool} (ho : o.op = .binOp .neq 37 x y r) (hx : a.eval x = .agg C) (hy : a.eval y = .agg D) (h : ∀ w, (Op.equalIn 10000 37 (.agg C) (.agg D)).run Tryz.prog w = .ok b w) : (execOp a.eval o).run Tryz.prog w = .ok (.value (.bool (!b))) w := by
 unfold execOp
 simp only [ho, hx, hy, Sem.run_bind, run_eqGuard_agg w _ _ x y C D guardT, Result.andThen_ok, run_neq_struct, h]
 rfl
theorem isring_any (n ca cb : Nat) (oa ob : Option Addr) (N : Nat → Nat) (S : Nat → Nat → Nat) (w : World) (hA : TL w oa n N S) (hB : TL w ob n N S) (hn : n < 1000000) :
  Calls Tryz.prog 17 #[.agg #[.slice oa n ca], .slice ob n cb] w fun e w' => e = .returned (.bool true) ∧ Below w.heap.size w w' := by
 obtain ⟨w1, hw1⟩ := zX (w.alloc (.cells #[.slice oa n ca] 32))
 have hb1 : Below w.heap.size w w1 := by rw [← hw1]; exact zA
 have hB1 : Blk w1 w.heap.size #[.slice oa n ca] 32 := by rw [← hw1]; exact Blk.new _ _ _
 have c0 : w1.cell? ⟨w.heap.size, 0, none⟩ = some (.slice oa n ca) := by rw [Blk.cell hB1]; rfl
 have HA := zh hA
 have HB := zh hB
 have HN := zh hn
 have HD1 := zh (And.intro hb1 hB1)
 have d1 : (n : Int) = n := by omega
 have d2 : decide ((n : Int) = n) = true := decide_eq_true d1
 clear hA hB hn hb1 hB1
 go_enter Tryz.func17, Tryz.ntmps17
 go_wp2_with fail
 clear c0
 go_loopw [5] (fun y wr => ∃ i : Nat, i ≤ n ∧ y = .int .i64 (i : Int) ∧ Below w.heap.size w wr ∧ Blk wr w.heap.size #[.slice oa n ca] 32) (fun y _ => n - (intOf y).toNat)
 case atStart => exact ⟨0, Nat.zero_le _, rfl, HD1.out.1, HD1.out.2⟩
 case round =>
  obtain ⟨i, hi, rfl, hbw, hBw⟩ := hrel
  have HDW := zh (And.intro hbw hBw)
  by_cases hlt : i < n
  ·have HI := zh (show i + 1 ≤ n from hlt)
   have za1 : (i : Int) < (n : Int) := by omega
   have za2 : decide ((i : Int) < (n : Int)) = true := decide_eq_true za1
   have za7 : i < n := by omega
   have za8 : decide (i < n) = true := decide_eq_true za7
   have i0 : (0 : Int) ≤ (i : Int) := by omega
   have k4 : IntKind.i64.wrap ((i : Int) + 1) = ((i + 1 : Nat) : Int) := by have := HN.out; rw [IntWalk.i64_in _ (by omega)]; omega
   obtain ⟨ba, fa, e, hra⟩ := (HA.out.later hbw) i hlt
   subst e
   obtain ⟨bb, fb, e, hrb⟩ := (HB.out.later hbw) i hlt
   subst e
   obtain ⟨C, hC⟩ := zX ((tmL (N i) (S i)).toArray)
   have HIA : Hid ((Tryz.prog.info? 37).map (·.size) = some C.size) := zh (by rw [← hC, tm_size]; exact info_t1)
   have HIB : Hid ((Tryz.prog.info? 76).map (·.size) = some C.size) := zh (by rw [← hC, tm_size]; exact info_t2)
   have HEQ : Hid (∀ w, (Op.equalIn 10000 37 (.agg C) (.agg C)).run Tryz.prog w = .ok true w) := zh (by rw [← hC]; exact eqT _ _)
   have hSW0 : wr.drew.cell? ⟨w.heap.size, 0, none⟩ = some (.slice (some ⟨ba, fa, none⟩) n ca) ∧ wr.drew.rangeAt ba (fa + i * 33) C.toList ∧ wr.drew.rangeAt bb (fb + i * 33) C.toList := ⟨by have h9 : wr.cell? ⟨w.heap.size, 0, none⟩ = some (.slice (some ⟨ba, fa, none⟩) n ca) := (by rw [Blk.cell hBw]; rfl); exact h9, by rw [← hC]; exact hra, by rw [← hC]; exact hrb⟩
   clear hC hlt hi hbw hBw hra hrb
   go_upto_region 6 with fail
   refine wp_region_held_drew (S := (fun A => A.cell? ⟨w.heap.size, 0, none⟩ = some (.slice (some ⟨ba, fa, none⟩) n ca) ∧ A.rangeAt ba (fa + i * 33) C.toList ∧ A.rangeAt bb (fb + i * 33) C.toList)) (by kernel_rfl) ?_ (fun hHeld => ?_)
   ·(try dsimp only)
    (first | assumption | (dsimp only; assumption))
   refine wT 0 ?_ rfl ?_ ?_
   rotate_left
   ·intro wS hSw
    (try dsimp only at hSw)
    go_simp
    (try with_reducible rfl)
   (try simp only [Act.put, zS])
   refine wT 1 ?_ rfl ?_ ?_
   rotate_left
   ·intro wS hSw
    (have c := hSw.1; go_simp; (try with_reducible rfl))
   (try simp only [Act.put, zS])
   refine wT 2 ?_ rfl ?_ ?_
   rotate_left
   ·intro wS hSw
    (try dsimp only at hSw)
    go_simp
    (try with_reducible rfl)
   (try simp only [Act.put, zS])
   refine wT 3 ?_ rfl ?_ ?_
   rotate_left
   ·intro wS hSw
    (try dsimp only at hSw)
    go_simp
    (try with_reducible rfl)
   (try simp only [Act.put, zS])
   refine wT 4 ?_ rfl ?_ ?_
   rotate_left
   ·intro wS hSw
    (refine exec_loadA (x := .tmp 21) (C := C) ?_ ?_ hSw.2.1 Tryz.underlying37 rfl HIA.out <;> rfl)
   (try simp only [Act.put, zS])
   refine wT 5 ?_ rfl ?_ ?_
   rotate_left
   ·intro wS hSw
    (try dsimp only at hSw)
    go_simp
    (try with_reducible rfl)
   (try simp only [Act.put, zS])
   refine wT 6 ?_ rfl ?_ ?_
   rotate_left
   ·intro wS hSw
    (try dsimp only at hSw)
    go_simp
    (try with_reducible rfl)
   (try simp only [Act.put, zS])
   refine wT 7 ?_ rfl ?_ ?_
   rotate_left
   ·intro wS hSw
    (try dsimp only at hSw)
    go_simp
    (try with_reducible rfl)
   (try simp only [Act.put, zS])
   refine wT 8 ?_ rfl ?_ ?_
   rotate_left
   ·intro wS hSw
    (refine exec_loadA (x := .tmp 25) (C := C) ?_ ?_ hSw.2.2 Tryz.underlying76 rfl HIB.out <;> rfl)
   (try simp only [Act.put, zS])
   refine wT 9 ?_ rfl ?_ ?_
   rotate_left
   ·intro wS hSw
    (refine exec_neqT (x := .tmp 22) (y := .tmp 26) (r := 37) (C := C) (D := C) (b := true) ?_ ?_ ?_ HEQ.out <;> rfl)
   (try simp only [Act.put, zS])
   refine wpAnyH_done (by kernel_rfl) ?_ _
   clear hSW0
   go_wp2_with fail
   go_roundw
   case rel => exact ⟨i + 1, HI.out, by first | rfl | go_num, HDW.out.1.drew, HDW.out.2.drew⟩
   case measure => have := HI.out; simp [intOf]; omega
  ·obtain rfl : i = n := by omega
   have za1 : ¬ (i : Int) < (i : Int) := by omega
   have za2 : decide ((i : Int) < (i : Int)) = false := decide_eq_false za1
   have za7 : ¬ i < i := by omega
   have za8 : decide (i < i) = false := decide_eq_false za7
   clear hbw hBw hlt hi
   go_wp2_with fail
   go_ret
   exact ⟨rfl, HDW.out.1⟩
end Go.Proofs.YtncfocjmdecapaaGreatDoor
