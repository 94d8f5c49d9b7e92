/- May a ring be? Terms cloned; a ring of one key; a ring with a term more. A ring with a term more. -/
import Derived.Deep.DeepCutAuto
import Derived.Deep.RegionHeld3
import Derived.Test.YtncfocjmdecapaaGreatDoorZB0
import Derived.Test.YtncfocjmdecapaaGreatDoorZS1
import Derived.Test.YtncfocjmdecapaaGreatDoorZS2
import Derived.Test.YtncfocjmdecapaaGreatDoorZSh4
import Derived.Test.YtncfocjmdecapaaGreatDoorZA0
import Derived.Test.YtncfocjmdecapaaGreatDoorZS5
import Derived.Test.YtncfocjmdecapaaGreatDoorZSh7
import Derived.Test.YtncfocjmdecapaaGreatDoorZS8
import Derived.Test.YtncfocjmdecapaaGreatDoorZHm2
import Derived.Test.YtncfocjmdecapaaGreatDoorZHm3
import Derived.Test.YtncfocjmdecapaaGreatDoorZR0
import Derived.Test.YtncfocjmdecapaaGreatDoorZK0
namespace Go.Proofs.YtncfocjmdecapaaGreatDoor
set_option linter.unusedVariables false
set_option linter.unusedSimpArgs false
open Go.RowKit
def OkT (n : Nat) (N : Nat → Nat) : Prop := 1 ≤ n ∧ n ≤ 16 ∧ ∀ i, i < n → N i = i + 1
/-- What Check answers. -/
def ChkR (n : Nat) (N : Nat → Nat) (w : World) (e : Ending) (w' : World) : Prop := ((e = .returned .nilIface ∧ OkT n N) ∨ (e = .returned (.iface 53 (.int .i64 1)) ∧ ¬ OkT n N)) ∧ Below w.heap.size w w'
theorem ChkR.ok {n : Nat} {N : Nat → Nat} {w w' : World} (h : OkT n N) (hb : Below w.heap.size w w') : ChkR n N w (.returned .nilIface) w' := ⟨.inl ⟨rfl, h⟩, hb⟩
theorem ChkR.no {n : Nat} {N : Nat → Nat} {w w' : World} (h : ¬ OkT n N) (hb : Below w.heap.size w w') : ChkR n N w (.returned (.iface 53 (.int .i64 1))) w' := ⟨.inr ⟨rfl, h⟩, hb⟩
set_option maxRecDepth 100000 in
set_option maxHeartbeats 4000000 in
theorem check_any (n cs : Nat) (oa : Option Addr) (N : Nat → Nat) (S : Nat → Nat → Nat) (w : World) (hT : TL w oa n N S) (hN : ∀ i, i < n → N i < 4294967296) (hn : n < 1000000) :
    Calls Tryz.prog 38 #[.agg #[.slice oa n cs]] w (ChkR n N w) := by
  obtain ⟨w1, hw1⟩ : ∃ y, w.alloc (.cells #[.slice oa n cs] 32) = y := ⟨_, rfl⟩
  have hb1 : Below w.heap.size w w1 := by rw [← hw1]; exact (Below.refl _ _).alloc (Nat.le_refl _) _
  have hB1 : Blk w1 w.heap.size #[.slice oa n cs] 32 := by rw [← hw1]; exact Blk.new _ _ _
  have c0 : w1.cell? ⟨w.heap.size, 0, none⟩ = some (.slice oa n cs) := by rw [Blk.cell hB1]; rfl
  have HT := Lib.hid (hT.later hb1)
  have HNL := Lib.hid hN
  have HN := Lib.hid hn
  have HB1 := Lib.hid hb1
  clear hT hN hb1 hB1
  by_cases g1 : n < 1
  · skip
    have a1 : (n : Int) < (1 : Int) := by omega
    have a2 : decide ((n : Int) < (1 : Int)) = true := decide_eq_true a1
    have a7 : n < 1 := by omega
    have a8 : decide (n < 1) = true := decide_eq_true a7
    have hno : ¬ OkT n N := fun h => by have := h.1; omega
    go_enter Tryz.func38, Tryz.ntmps38
    go_wp2_with fail
    go_ret
    exact ChkR.no hno (HB1.out)
  · skip
    have a1 : ¬ (n : Int) < (1 : Int) := by omega
    have a2 : decide ((n : Int) < (1 : Int)) = false := decide_eq_false a1
    have a7 : ¬ n < 1 := by omega
    have a8 : decide (n < 1) = false := decide_eq_false a7
    by_cases g2 : 16 < n
    · skip
      have b1 : (16 : Int) < (n : Int) := by omega
      have b2 : decide ((16 : Int) < (n : Int)) = true := decide_eq_true b1
      have b7 : 16 < n := by omega
      have b8 : decide (16 < n) = true := decide_eq_true b7
      have hno : ¬ OkT n N := fun h => by have := h.2.1; omega
      go_enter Tryz.func38, Tryz.ntmps38
      go_wp2_with fail
      go_ret
      exact ChkR.no hno (HB1.out)
    · skip
      have b1 : ¬ (16 : Int) < (n : Int) := by omega
      have b2 : decide ((16 : Int) < (n : Int)) = false := decide_eq_false b1
      have b7 : ¬ 16 < n := by omega
      have b8 : decide (16 < n) = false := decide_eq_false b7
      have HG := Lib.hid (show 1 ≤ n ∧ n ≤ 16 by omega)
      go_enter Tryz.func38, Tryz.ntmps38
      go_wp2_with fail
      clear a1 a2 a7 a8 b1 b2 b7 b8 g1 g2 c0
      go_loopw [19] (fun x wr => ∃ i : Nat, i ≤ n ∧ x = .int .i64 (i : Int) ∧ (∀ j, j < i → N j = j + 1) ∧ Below w1.heap.size w1 wr) (fun x _ => n - (intOf x).toNat)
      case atStart => exact ⟨0, Nat.zero_le _, rfl, fun j hj => absurd hj (Nat.not_lt_zero _), Below.refl _ _⟩
      case round =>
        obtain ⟨i, hi, rfl, hok, hbw⟩ := hrel
        have HOK := Lib.hid hok
        have HBW := Lib.hid hbw
        clear hok hbw
        by_cases hlt : i < n
        · have i1 : (i : Int) < (n : Int) := by omega
          have i0 : (0 : Int) ≤ (i : Int) := by omega
          have k4 : IntKind.i64.wrap ((i : Int) + 1) = ((i + 1 : Nat) : Int) := by have := HG.out; rw [IntWalk.i64_in _ (by omega)]; omega
          obtain ⟨b, off, e, hrg⟩ := (HT.out.later HBW.out) i hlt
          subst e
          obtain ⟨ni, hni⟩ : ∃ q, N i = q := ⟨_, rfl⟩
          rw [hni] at hrg
          obtain ⟨C, hC⟩ : ∃ q, (tmL ni (S i)).toArray = q := ⟨_, rfl⟩
          have HSZ : Hid (C.size = 33) := Lib.hid (by rw [← hC]; exact tm_size _ _)
          have HON : Hid (C.all (·.oneCell') = true) := Lib.hid (by rw [← hC]; exact tm_one _ _)
          have HIS : Hid ((Tryz.prog.info? 37).map (·.size) = some C.size) := Lib.hid (by rw [HSZ.out]; exact info_t1)
          have HRG : Hid (wr.rangeAt b (off + i * 33) C.toList) := Lib.hid (by rw [← hC]; exact hrg)
          obtain ⟨b4, hqb4⟩ : ∃ y, wr.heap.size = y := ⟨_, rfl⟩
          obtain ⟨wz4, hwz4⟩ : ∃ y, wr.alloc (.cells zeroT 37) = y := ⟨_, rfl⟩
          have hbz : Below wr.heap.size wr wz4 := by rw [← hwz4]; exact (Below.refl _ _).alloc (Nat.le_refl _) _
          have hXz : Blk wz4 b4 zeroT 37 := by rw [← hwz4, ← hqb4]; exact Blk.new _ _ _
          have HTZb4 : Hid (wz4.there b4 0 C.size) := Lib.hid (hXz.there (by rw [zeroT_size, HSZ.out]; exact Nat.le_refl _))
          obtain ⟨w5, hw5⟩ : ∃ y, wz4.setCells b4 0 C.toList = y := ⟨_, rfl⟩
          have hOz : Own b4 wz4 w5 := by rw [← hw5]; exact Own.setCells _ _ _
          have HBw5 : Hid (Below wr.heap.size wr w5) := Lib.hid (hbz.trans (hOz.below (by omega) hbz.size))
          have HNw5 : Hid (Blk w5 b4 C 37) := Lib.hid (by rw [← hw5]; exact Blk.setCells hXz C.toList (by rw [zeroT_size, Array.length_toList]; exact HSZ.out))
          have HWw5 := Lib.hid hw5
          clear hbz hXz hOz hw5
          have c4 : w5.cell? ⟨b4, 0, none⟩ = some (.int .u32 (ni : Int)) := by have h9 := HNw5.out; rw [← hC] at h9; exact tm_cell0 h9
          obtain ⟨i2, hi2⟩ : ∃ q, i + 1 = q := ⟨_, rfl⟩
          have k5 : (i : Int) + 1 = (i2 : Int) := by omega
          have k6 : IntKind.i64.wrap (i2 : Int) = (i2 : Int) := IntWalk.i64_in _ (by have := HG.out; omega)
          have k7 : IntKind.u32.wrap (i2 : Int) = (i2 : Int) := IntWalk.u32_in _ (by have := HG.out; omega)
          have HI := Lib.hid (show i < n ∧ i + 1 = i2 ∧ i2 ≤ n ∧ N i = ni from ⟨hlt, hi2, by omega, hni⟩)
          have HB5 := Lib.hid (HBW.out.trans (HBw5.out.mono HBW.out.size))
          clear hC hrg hlt hi hi2 hni k4
          by_cases hq : ni = i2
          · skip
            have e1 : (ni : Int) = (i2 : Int) := by omega
            have e2 : decide ((ni : Int) = (i2 : Int)) = true := decide_eq_true e1
            have e3 : ((ni : Int) == (i2 : Int)) = true := by simp only [beq_iff_eq]; exact e1
            have e4 : decide (ni = i2) = true := decide_eq_true (by omega)
            have e5 : (ni == i2) = true := by simp only [beq_iff_eq]; omega
            go_wp2_with (first | (refine wpList_value rfl (exec_loadA (x := .tmp 22) (C := C) rfl rfl HRG.out Tryz.underlying37 rfl HIS.out) ?_) | (refine wpList_zero rfl rfl zero_t1 ?_; rw [hwz4, hqb4]; (try simp only [Act.put, List.setIfInBounds_toArray, List.set_cons_zero, List.set_cons_succ])) | (refine wpList_store_mid rfl 37 (.tmp 4) (.tmp 23) rfl b4 0 C rfl rfl HTZb4.out HIS.out HON.out ?_; rw [HWw5.out]))
            go_roundw
            case rel => exact ⟨i2, HI.out.2.2.1, by first | rfl | go_num, fun j hj => by
              by_cases e : j < i
              · exact HOK.out j e
              · rw [show j = i by have := HI.out; omega, HI.out.2.2.2, hq]; exact HI.out.2.1.symm, HB5.out⟩
            case measure => have := HI.out; simp [intOf]; omega
          · skip
            have e1 : ¬ (ni : Int) = (i2 : Int) := by omega
            have e2 : decide ((ni : Int) = (i2 : Int)) = false := decide_eq_false e1
            have e3 : ((ni : Int) == (i2 : Int)) = false := by simp only [beq_eq_false_iff_ne]; exact e1
            have e4 : decide (ni = i2) = false := decide_eq_false (by omega)
            have e5 : (ni == i2) = false := by simp only [beq_eq_false_iff_ne]; omega
            have e6 : ¬ ni = i2 := by omega
            have hno : ¬ OkT n N := fun h => hq (by rw [← HI.out.2.2.2, h.2.2 i HI.out.1]; exact HI.out.2.1)
            go_wp2_with (first | (refine wpList_value rfl (exec_loadA (x := .tmp 22) (C := C) rfl rfl HRG.out Tryz.underlying37 rfl HIS.out) ?_) | (refine wpList_zero rfl rfl zero_t1 ?_; rw [hwz4, hqb4]; (try simp only [Act.put, List.setIfInBounds_toArray, List.set_cons_zero, List.set_cons_succ])) | (refine wpList_store_mid rfl 37 (.tmp 4) (.tmp 23) rfl b4 0 C rfl rfl HTZb4.out HIS.out HON.out ?_; rw [HWw5.out]))
            go_ret
            exact ChkR.no hno (HB1.out.trans (HB5.out.mono HB1.out.size))
        · obtain rfl : n = i := by omega
          have i1 : ¬ (n : Int) < (n : Int) := by omega
          have hok : OkT n N := ⟨HG.out.1, HG.out.2, HOK.out⟩
          clear hlt hi
          go_wp2_with fail
          go_ret
          exact ChkR.ok hok (HB1.out.trans (HBW.out.mono HB1.out.size))
end Go.Proofs.YtncfocjmdecapaaGreatDoor
namespace Go.Proofs.YtncfocjmdecapaaGreatDoor
set_option linter.unusedVariables false
set_option linter.unusedSimpArgs false
open Go.RowKit
theorem und_ts : Tryz.prog.underlying 30 = some (.slice 37) := by kernel_rfl
theorem results_cell_tmp1 {P : Program} {fn : Func} {p q : Tmp} {ty : TypeId} (h : fn.results = #[.cell p ty, .tmp q]) (tmps : Array Value) (w : World) (g : Nat) (t : TypeId) (cs : Array Value) (fr : Nat × Nat) (d : TypeDesc)
    (hp : tmps.getD p undef = .pointer (some ⟨g, 0, none⟩)) (hg : w.heap[g]? = some (.cells cs t fr))
    (hu : P.underlying ty = some d) (hd : (match d with | .struct _ | .array _ _ => true | _ => false) = true) (hi : (P.info? ty).map (·.size) = some cs.size) :
    (results fn tmps).run P w = .ok (.tuple #[.agg cs, tmps.getD q undef]) w := by
  have hp' : tmps[p]?.getD undef = .pointer (some ⟨g, 0, none⟩) := by simpa using hp
  simp [results, h, hp', asAddr, run_loadVar_row w g t ty cs fr d hg hu hd hi]
theorem info_rg (v : Value) : (Tryz.prog.info? 32).map (·.size) = some (#[v] : Array Value).size := by kernel_rfl
theorem wpList_bs1 {ops : Array Oper} {rest : List Oper} {o : Oper} {a : Act} {w : World} {Q : Exit → Act → World → Prop} (hgd : o.guard = none) (x : Operand) (ho : o.op = .buildSlice 30 1 #[(0, x)]) (C : Array Value) (hx : a.eval x = .agg C)
    (h : ∀ w, (Instr.buildSlice 30 1 #[(0, .agg C)]).run Tryz.prog w = .ok (.slice (some ⟨w.heap.size, 0, none⟩) 1 1) (w.alloc (.cells C 37)))
    (hk : wpList Tryz.prog ops Q rest (a.put o.dst (.slice (some ⟨w.heap.size, 0, none⟩) 1 1)) (w.alloc (.cells C 37))) : wpList Tryz.prog ops Q (o :: rest) a w := by
  refine wpList_plain hgd fun K hK => ?_
  have e : (#[((0 : Nat), x)].map fun (i, x) => (i, a.eval x)) = #[(0, .agg C)] := by simp [hx]
  unfold Oper.wp execOp
  simp only [ho, e, h, Sem.run_bind, Result.andThen_ok]
  exact hK _ _ hk
theorem step_bs1 {ops : Array Oper} {o : Oper} {a : Act} {w : World} {K : Act → World → Prop} {Q : Exit → Act → World → Prop} {E : Prop} (hgd : o.guard = none) (x : Operand) (ho : o.op = .buildSlice 30 1 #[(0, x)]) (C : Array Value) (hx : a.eval x = .agg C)
    (h : ∀ w, (Instr.buildSlice 30 1 #[(0, .agg C)]).run Tryz.prog w = .ok (.slice (some ⟨w.heap.size, 0, none⟩) 1 1) (w.alloc (.cells C 37)))
    (hk : K (a.put o.dst (.slice (some ⟨w.heap.size, 0, none⟩) 1 1)) (w.alloc (.cells C 37))) : if Region.wanted o (yielded ops a.tmps) = true then Oper.wp Tryz.prog o a w K Q else E := by
  have hw : Region.wanted o (yielded ops a.tmps) = true := by simp [Region.wanted, hgd]
  rw [if_pos hw]
  have e : (#[((0 : Nat), x)].map fun (i, x) => (i, a.eval x)) = #[(0, .agg C)] := by simp [hx]
  unfold Oper.wp execOp
  simp only [ho, e, h, Sem.run_bind, Result.andThen_ok]
  exact hk
theorem bs_t1 (n : Nat) (S : Nat → Nat) (w : World) : (Instr.buildSlice 30 1 #[(0, .agg (tmL n S).toArray)]).run Tryz.prog w = .ok (.slice (some ⟨w.heap.size, 0, none⟩) 1 1) (w.alloc (.cells (tmL n S).toArray 37)) := by kernel_rfl
theorem TL.one {w : World} {g n : Nat} {S : Nat → Nat} {T : TypeId} (h : Blk w g (tmL n S).toArray T) : TL w (some ⟨g, 0, none⟩) 1 (fun _ => n) (fun _ => S) := fun i hi => ⟨g, 0, rfl, fun j v hv => by
  obtain rfl : i = 0 := by omega
  rw [Blk.cell h, List.getElem?_toArray, Nat.zero_mul, Nat.add_zero, Nat.zero_add]; exact hv⟩
set_option maxRecDepth 100000 in
set_option maxHeartbeats 4000000 in
theorem first_any (S : Nat → Nat) (w : World) :
    Calls Tryz.prog 8 #[.agg (rowC 32 S).toArray] w fun e w' => ∃ g, e = .returned (.agg #[.slice (some ⟨g, 0, none⟩) 1 1]) ∧ TL w' (some ⟨g, 0, none⟩) 1 (fun _ => 1) (fun _ => S) ∧ Below w.heap.size w w' := by
  obtain ⟨F, hF⟩ : ∃ q, (rowC 32 S).toArray = q := ⟨_, rfl⟩
  obtain ⟨C, hC⟩ : ∃ q, (tmL 1 S).toArray = q := ⟨_, rfl⟩
  rw [hF]
  obtain ⟨b2, hb2⟩ : ∃ q, w.heap.size + 1 = q := ⟨_, rfl⟩
  obtain ⟨w1, hw1⟩ : ∃ q, (w.alloc (.cells F 22)).alloc (.cells #[.slice none 0 0] 32) = q := ⟨_, rfl⟩
  have hb1 : Below w.heap.size w w1 := by rw [← hw1]; exact ((Below.refl _ _).alloc (Nat.le_refl _) _).alloc (by simp) _
  have hP : Blk w1 w.heap.size F 22 := by rw [← hw1]; exact (Blk.new _ _ _).alloc _
  have hR : Blk w1 b2 #[.slice none 0 0] 32 := by rw [← hw1, ← hb2]; simpa using Blk.new (w.alloc (.cells F 22)) #[.slice none 0 0] 32
  obtain ⟨w2, hw2⟩ : ∃ q, w1.alloc (.cells C 37) = q := ⟨_, rfl⟩
  have hb12 : Below w1.heap.size w1 w2 := by rw [← hw2]; exact (Below.refl _ _).alloc (Nat.le_refl _) _
  obtain ⟨g, hg⟩ : ∃ q, w1.heap.size = q := ⟨_, rfl⟩
  have hT : Blk w2 g C 37 := by rw [← hw2, ← hg]; exact Blk.new _ _ _
  have hR2 := Blk.below hR hb12 (Blk.lt hR)
  have f2 : w2.frozen? ⟨b2, 0, none⟩ = false := Blk.free hR2 0
  have c2 : w2.cell? ⟨b2, 0, none⟩ = some (.slice none 0 0) := by rw [Blk.cell hR2]; rfl
  obtain ⟨w3, hw3⟩ : ∃ q, w2.setCell ⟨b2, 0, none⟩ (.slice (some ⟨g, 0, none⟩) 1 1) = q := ⟨_, rfl⟩
  have hO : Own b2 w2 w3 := by rw [← hw3]; exact (Own.refl _ _).set 0 _
  have HX : Hid (Blk w3 b2 #[.slice (some ⟨g, 0, none⟩) 1 1] 32) := Lib.hid (by rw [← hw3]; exact hR2.set 0 _)
  have HT3 : Hid (TL w3 (some ⟨g, 0, none⟩) 1 (fun _ => 1) (fun _ => S)) := Lib.hid (by
    have h9 := hO.blk hT (by have := Blk.lt hR; omega)
    rw [← hC] at h9; exact TL.one h9)
  have HB : Hid (Below w.heap.size w w3) := Lib.hid (by
    have h9 := hb1.trans (hb12.mono hb1.size)
    exact h9.trans (hO.below (by omega) h9.size))
  have HFZ : Hid (F.size = 32) := Lib.hid (by rw [← hF, List.size_toArray, rowC_len])
  have HIF : Hid ((Tryz.prog.info? 22).map (·.size) = some F.size) := Lib.hid (by rw [HFZ.out]; exact info_a32)
  have HRF := Lib.hid hP.rangeA
  have HBT : Hid (∀ w, (Instr.build 37 #[(0, .int .u32 1), (1, .agg F)]).run Tryz.prog w = .ok (.agg C) w) := Lib.hid (by rw [← hF, ← hC]; exact build_t1 1 S)
  have HBS : Hid (∀ w, (Instr.buildSlice 30 1 #[(0, .agg C)]).run Tryz.prog w = .ok (.slice (some ⟨w.heap.size, 0, none⟩) 1 1) (w.alloc (.cells C 37))) := Lib.hid (by rw [← hC]; exact bs_t1 1 S)
  have HW2 := Lib.hid hw2
  clear hP hR hb1 hb12 hT hR2 hO hw2 hF hC
  go_enter Tryz.func8, Tryz.ntmps8
  go_wp2_with (first | (refine wpList_value rfl (exec_loadA (x := .tmp 1) (C := F) rfl rfl HRF.out Tryz.underlying22 rfl HIF.out) ?_) | (refine wpList_value rfl (exec_buildM (parts := #[(0, .const (.int .u32 1)), (1, .tmp 3)]) (ps := #[(0, .int .u32 1), (1, .agg F)]) rfl (by first | rfl | (simp [Act.eval]; done) | (go_simp; done)) HBT.out) ?_) | (refine wpList_bs1 rfl (.tmp 4) rfl C rfl HBS.out ?_; rw [HW2.out, hg]; (try simp only [Act.put, List.setIfInBounds_toArray, List.set_cons_zero, List.set_cons_succ])))
  refine bodyPost_ret (v := .agg #[.slice (some ⟨g, 0, none⟩) 1 1]) ?_ rfl ⟨g, rfl, HT3.out, HB.out⟩
  exact results_cell_row Tryz.results8 _ _ b2 32 #[.slice (some ⟨g, 0, none⟩) 1 1] (0, 0) _ rfl HX.out Tryz.underlying32 rfl (info_rg _)
end Go.Proofs.YtncfocjmdecapaaGreatDoor
namespace Go.Proofs.YtncfocjmdecapaaGreatDoor
set_option linter.unusedVariables false
set_option linter.unusedSimpArgs false
open Go.RowKit
/-- What Rotate answers. -/
def RotR (n : Nat) (N : Nat → Nat) (S : Nat → Nat → Nat) (Ky : Nat → Nat) (w : World) (e : Ending) (w' : World) : Prop := Below w.heap.size w w' ∧
  ((e = .returned (.tuple #[.agg #[.slice none 0 0], .iface 53 (.int .i64 1)]) ∧ ¬ OkT n N) ∨ (e = .returned (.tuple #[.agg #[.slice none 0 0], .iface 53 (.int .i64 7)]) ∧ OkT n N ∧ n = 16) ∨
  (OkT n N ∧ n < 16 ∧ ∃ o c, e = .returned (.tuple #[.agg #[.slice o (n + 1) c], .nilIface]) ∧ TL w' o (n + 1) (fun i => i + 1) (catT n S (fun _ => Ky)) ∧ ∀ a, o = some a → w.heap.size ≤ a.block))
theorem RotR.ok {n : Nat} {N : Nat → Nat} {S : Nat → Nat → Nat} {Ky : Nat → Nat} {w w' : World} {o : Option Addr} {c : Nat} (h : OkT n N) (hn : n < 16) (hT : TL w' o (n + 1) (fun i => i + 1) (catT n S (fun _ => Ky))) (hf : ∀ a, o = some a → w.heap.size ≤ a.block) (hb : Below w.heap.size w w') : RotR n N S Ky w (.returned (.tuple #[.agg #[.slice o (n + 1) c], .nilIface])) w' := ⟨hb, .inr (.inr ⟨h, hn, o, c, rfl, hT, hf⟩)⟩
theorem RotR.no {n : Nat} {N : Nat → Nat} {S : Nat → Nat → Nat} {Ky : Nat → Nat} {w w' : World} (h : ¬ OkT n N) (hb : Below w.heap.size w w') : RotR n N S Ky w (.returned (.tuple #[.agg #[.slice none 0 0], .iface 53 (.int .i64 1)])) w' := ⟨hb, .inl ⟨rfl, h⟩⟩
theorem TL.away {w w' : World} {oa : Option Addr} {n b : Nat} {N : Nat → Nat} {S : Nat → Nat → Nat} (h : TL w oa n N S) (hO : Own b w w') (ha : ∀ a, oa = some a → a.block ≠ b) : TL w' oa n N S := fun i hi => by
  obtain ⟨b', off, e, hr⟩ := h i hi
  exact ⟨b', off, e, fun j v hv => hO.cell (hr j v hv) (show b' ≠ b from ha _ e)⟩
/-- Terms lie in no block of one cell that is a slice. -/
theorem TL.not {w : World} {oa : Option Addr} {n b : Nat} {N : Nat → Nat} {S : Nat → Nat → Nat} {v : Value} {T : TypeId} (h : TL w oa n N S) (hn : 1 ≤ n) (hB : Blk w b #[v] T) (hv : ∀ k m, v ≠ .int k m) : ∀ a, oa = some a → a.block ≠ b := fun a ha e => by
  obtain ⟨b', off, e1, e2⟩ := h.cell0 (i := 0) (by omega)
  rw [ha] at e1; cases e1
  have e3 : b' = b := e
  rw [e3, Blk.cell hB] at e2
  match off, e2 with
  | 0, e2 => exact hv _ _ (by simpa using e2)
  | off + 1, e2 => simp at e2
end Go.Proofs.YtncfocjmdecapaaGreatDoor
