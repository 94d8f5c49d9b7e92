/- AES, the document's side: Words, Ready. -/
import Derived.Test.YtcpcaekkdgogmaaDoorAd5
namespace Go.Proofs.YtcpcaekkdgogmaaDoor
set_option linter.unusedVariables false
set_option linter.unusedSimpArgs false
open Go.RowKit

theorem size256r (f : Nat → Nat) : (rowC 256 f).toArray.size = 256 := by rw [List.size_toArray, rowC_len]
theorem info39 (v : Nat → Nat) : (Tryd.prog.info? 39).map (·.size) = some (rowC 256 v).toArray.size := by rw [size256r]; kernel_rfl
theorem build41 (F : Nat → Nat) (w : World) : (Instr.build 41 #[(0, .agg (rowC 240 F).toArray), (1, .agg (rowC 256 subN).toArray)]).run Tryd.prog w = .ok (.agg (rowC 496 (fun j => if j < 240 then F j else subN (j - 240))).toArray) w :=
  run_build w 41 _ _ (by kernel_rfl)
theorem extract4 (F : Nat → Nat) (n : Nat) (hn : n < 60) : (rowC 240 F).toArray.extract (n * 4) (n * 4 + 4) = (rowC 4 (fun k => F (n * 4 + k))).toArray := by
  refine Array.ext ?_ fun i h1 h2 => ?_
  · rw [Array.size_extract, size240, List.size_toArray, rowC_len]; omega
  · have hi : i < 4 := by rw [List.size_toArray, rowC_len] at h2; exact h2
    rw [Array.getElem_extract]
    have a1 : (rowC 240 F)[n * 4 + i]? = some (.int .u8 (F (n * 4 + i) : Nat)) := rowC_get F (by omega)
    have a2 : (rowC 4 (fun k => F (n * 4 + k)))[i]? = some (.int .u8 (F (n * 4 + i) : Nat)) := rowC_get _ hi
    rw [List.getElem?_eq_some_iff] at a1 a2
    obtain ⟨_, b1⟩ := a1
    obtain ⟨_, b2⟩ := a2
    simp only [List.getElem_toArray]
    rw [b1, b2]
theorem run_index36 (F : Nat → Nat) (n : Nat) (hn : n < 60) (w : World) : (Instr.index 36 (.agg (rowC 240 F).toArray) (.int .i64 (n : Int))).run Tryd.prog w = .ok (.agg (rowC 4 (fun k => F (n * 4 + k))).toArray) w := by
  have h1 : Tryd.prog.underlying 36 = some (.array 60 35) := Tryd.underlying36
  have h2 : (isAgg 35).run Tryd.prog w = .ok true w := by
    unfold isAgg; rw [Sem.run_bind, run_underlying Tryd.underlying35 w]; rfl
  have h3 : (sizeOf 35).run Tryd.prog w = .ok 4 w := by kernel_rfl
  have h4 : (0 : Int) ≤ (n : Int) ∧ (n : Int) < ((60 : Nat) : Int) := by omega
  have h5 : (n : Int).toNat * 4 = n * 4 := by omega
  unfold Instr.index part
  simp only [asIntOf, Sem.run_bind, Sem.run_pure, Result.andThen_ok, run_underlying h1]
  rw [if_pos h4]
  simp only [Sem.run_bind, Result.andThen_ok, h2, h3, if_true, h5, Sem.run_pure]
  rw [extract4 F n hn]
theorem wpList_index36 {ops : Array Oper} {rest : List Oper} {o : Oper} {a : Act} {w : World} {Q : Exit → Act → World → Prop} {C D : Array Value} {n : Int} (hgd : o.guard = none) (x y : Operand) (ho : o.op = .index 36 x y) (hx : a.eval x = .agg C) (hy : a.eval y = .int .i64 n) (h : ∀ w, (Instr.index 36 (.agg C) (.int .i64 n)).run Tryd.prog w = .ok (.agg D) w)
    (hk : wpList Tryd.prog ops Q rest (a.put o.dst (.agg D)) w) : wpList Tryd.prog ops Q (o :: rest) a w := by
  refine wpList_plain hgd fun K hK => ?_
  have e : (execOp a.eval o).run Tryd.prog w = .ok (.value (.agg D)) w := by
    unfold execOp
    simp only [ho, hx, hy, Sem.run_bind, h, Result.andThen_ok]
    rfl
  unfold Oper.wp
  rw [e]
  exact hK _ _ hk
theorem exec_build41 {o : Oper} {a : Act} {w : World} {C : Array Value} {parts : Array (Nat × Operand)} {ps : Array (Nat × Value)} (ho : o.op = .build 41 parts) (hp : (parts.map fun (i, x) => (i, a.eval x)) = ps) (h : ∀ w, (Instr.build 41 ps).run Tryd.prog w = .ok (.agg C) w) : (execOp a.eval o).run Tryd.prog w = .ok (.value (.agg C)) w := by
  unfold execOp
  simp only [ho, hp, Sem.run_bind, h, Result.andThen_ok]
  rfl
theorem exec_load39 {o : Oper} {a : Act} {w : World} {g : Nat} {C : Array Value} {x : Operand} (ho : o.op = .load 39 x) (hx : a.eval x = .pointer (some ⟨g, 0, none⟩)) (hB : Blk w g C 39) (hs : (Tryd.prog.info? 39).map (·.size) = some C.size) : (execOp a.eval o).run Tryd.prog w = .ok (.value (.agg C)) w := by
  unfold execOp
  simp only [ho, hx, Instr.loadAt, Instr.sureAddr, Sem.run_bind, Sem.run_pure, Result.andThen_ok, run_loadVar_row w g 39 39 C (0, 0) _ hB Tryd.underlying39 rfl hs]
theorem there_all {w : World} {g n : Nat} {t : TypeId} {f : Nat → Nat} (h : RB t n g f w) {C : Array Value} (hs : C.size = n) : w.there g 0 C.size := by
  rw [hs]; exact Blk.there h (by rw [List.size_toArray, rowC_len]; exact Nat.le_refl _)
theorem bytes_out {w : World} {oa : Option Addr} {f : Nat → Nat} (hb : Bytes w oa 32 f) : ∃ kb off, oa = some ⟨kb, off, none⟩ ∧ kb < w.heap.size ∧ ∀ i, i < 32 → w.cell? ⟨kb, off + i, none⟩ = some (.int .u8 (f i : Nat)) := by
  obtain ⟨_, kb, off, rfl, hc0⟩ := hb 0 (by decide)
  refine ⟨kb, off, rfl, ?_, fun i hi => ?_⟩
  · rcases Nat.lt_or_ge kb w.heap.size with h' | h'
    · exact h'
    · simp [World.cell?, Array.getElem?_eq_none h'] at hc0
  · obtain ⟨_, b', o', e, hc⟩ := hb i hi
    cases e; exact hc
set_option maxRecDepth 100000 in
set_option maxHeartbeats 4000000 in
theorem rWords_any (f : Nat → Nat) (oa : Option Addr) (cap : Nat) (w : World) (hb : Bytes w oa 32 f) :
    Calls Tryd.prog 9 #[.slice oa 32 cap] w fun e w' => e = .returned (.agg (rowC 240 (dF f)).toArray) ∧ Below w.heap.size w w' := by
  have hf : ∀ i, i < 32 → f i < 256 := fun i hi => (hb i hi).1
  obtain ⟨kb, off, rfl, hkl, hk⟩ := bytes_out hb
  have hz := zero240_run
  obtain ⟨C, hC⟩ : ∃ C, (rowC 256 subN).toArray = C := ⟨_, rfl⟩
  obtain ⟨E, hE⟩ : ∃ C, (rowC 240 (dF f)).toArray = C := ⟨_, rfl⟩
  have HTB : Hid (∀ w', Calls Tryd.prog 20 #[] w' fun e w'' => e = .returned (.agg C) ∧ Below w'.heap.size w' w'') := Lib.hid fun w' => by rw [← hC]; exact table_any w'
  have HWD : Hid (∀ w', Below w.heap.size w w' → Calls Tryd.prog 19 #[.slice (some ⟨kb, off, none⟩) 32 cap, .agg C] w' fun e w'' => e = .returned (.agg E) ∧ Below w'.heap.size w' w'') := Lib.hid fun w' h => by
    rw [← hC, ← hE]; exact rwords_any f kb off cap w' hf fun i hi => cell_belowB h hkl (hk i hi)
  obtain ⟨w1, hw1⟩ : ∃ q, w.alloc (.cells zero240 36) = q := ⟨_, rfl⟩
  have H1 : Hid (RB 36 240 w.heap.size (fun _ => 0) w1 ∧ Below w.heap.size w w1) := Lib.hid ⟨by rw [← hw1]; exact Blk.new w zero240 _, by rw [← hw1]; exact (Below.refl _ _).alloc (Nat.le_refl _) _⟩
  have hI : (Tryd.prog.info? 36).map (·.size) = some E.size := by rw [← hE]; exact info36 _
  have hI1 : E.all (·.oneCell') = true := by rw [← hE]; exact one240 _
  have hES : E.size = 240 := by rw [← hE]; exact size240 _
  have HI := Lib.hid hI
  have HI1 := Lib.hid hI1
  have HES := Lib.hid hES
  have HE : Hid (∀ w', RB 36 240 w.heap.size (fun _ => 0) w' → Blk (w'.setCells w.heap.size 0 E.toList) w.heap.size E 36) := Lib.hid fun w' h => by
    rw [← hE]; exact Blk.setCells h (rowC 240 (dF f)) (by rw [size240, rowC_len])
  rw [hE]
  clear hf hk hkl hb hC hE hI hI1 hES
  go_enter Tryd.func9, Tryd.ntmps9
  go_wp2_with fail
  clear hw1 hz
  refine (HTB.out _).mono ?_
  rintro e w2 ⟨rfl, hb2⟩
  have H2 : Hid (RB 36 240 w.heap.size (fun _ => 0) w2 ∧ Below w.heap.size w w2) := Lib.hid ⟨Blk.below H1.out.1 hb2 (Blk.lt H1.out.1), H1.out.2.trans (hb2.mono H1.out.2.size)⟩
  clear hb2 H1
  go_wp2_with fail
  refine (HWD.out _ H2.out.2).mono ?_
  rintro e w3 ⟨rfl, hb3⟩
  have H3 : Hid (RB 36 240 w.heap.size (fun _ => 0) w3 ∧ Below w.heap.size w w3) := Lib.hid ⟨Blk.below H2.out.1 hb3 (Blk.lt H2.out.1), H2.out.2.trans (hb3.mono H2.out.2.size)⟩
  clear hb3 H2
  have HTH := Lib.hid (there_all H3.out.1 HES.out)
  have HN := Lib.hid (HE.out _ H3.out.1)
  have HO : Hid (Below w.heap.size w (w3.setCells w.heap.size 0 E.toList)) := Lib.hid (H3.out.2.trans ((Own.setCells _ 0 w3).below (Nat.le_refl _) H3.out.2.size))
  go_wp2_with (first | (refine wpList_store_mid rfl 36 (.tmp 2) (.tmp 5) rfl w.heap.size 0 E rfl rfl HTH.out HI.out HI1.out ?_))
  refine bodyPost_ret (v := .agg E) ?_ rfl ⟨rfl, HO.out⟩
  exact results_cell_row Tryd.results9 _ _ w.heap.size 36 E (0, 0) _ rfl HN.out Tryd.underlying36 rfl HI.out
def zero496 : Array Value := (rowC 496 (fun _ => 0)).toArray
theorem zero496_run (w : World) : (zeroValue 41).run Tryd.prog w = .ok (.agg zero496) w := by kernel_rfl
theorem size496 (v : Nat → Nat) : (rowC 496 v).toArray.size = 496 := by rw [List.size_toArray, rowC_len]
theorem info41 (v : Nat → Nat) : (Tryd.prog.info? 41).map (·.size) = some (rowC 496 v).toArray.size := by rw [size496]; kernel_rfl
theorem one496 (v : Nat → Nat) : (rowC 496 v).toArray.all (·.oneCell') = true := all_oneCell_toArray (rowC_one _ _)
end Go.Proofs.YtcpcaekkdgogmaaDoor
