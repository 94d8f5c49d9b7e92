/- What can be asked: names, how many args, without a token, which is secret. -/
import Derived.Test.YtmabhjifldafaaaDoorCv
namespace Go.Proofs.YtmabhjifldafaaaDoor
set_option linter.unusedVariables false
set_option linter.unusedSimpArgs false
open Go.RowKit

def nmL : List ByteArray := [⟨#[]⟩, ⟨#[105, 110, 105, 116]⟩, ⟨#[117, 110, 115, 101, 97, 108]⟩, ⟨#[115, 101, 97, 108]⟩, ⟨#[115, 116, 97, 116, 117, 115]⟩, ⟨#[112, 117, 116]⟩, ⟨#[103, 101, 116]⟩, ⟨#[100, 101, 108, 101, 116, 101]⟩, ⟨#[117, 110, 100, 101, 108, 101, 116, 101]⟩, ⟨#[100, 101, 115, 116, 114, 111, 121]⟩, ⟨#[108, 105, 115, 116]⟩, ⟨#[112, 111, 108, 105, 99, 121, 45, 112, 117, 116]⟩, ⟨#[112, 111, 108, 105, 99, 121, 45, 103, 101, 116]⟩, ⟨#[112, 111, 108, 105, 99, 121, 45, 100, 101, 108]⟩, ⟨#[116, 111, 107, 101, 110, 45, 99, 114, 101, 97, 116, 101]⟩, ⟨#[116, 111, 107, 101, 110, 45, 114, 101, 110, 101, 119]⟩, ⟨#[116, 111, 107, 101, 110, 45, 114, 101, 118, 111, 107, 101]⟩, ⟨#[116, 111, 107, 101, 110, 45, 115, 101, 108, 102]⟩, ⟨#[108, 101, 97, 115, 101, 45, 105, 115, 115, 117, 101]⟩, ⟨#[108, 101, 97, 115, 101, 45, 114, 101, 110, 101, 119]⟩, ⟨#[108, 101, 97, 115, 101, 45, 114, 101, 118, 111, 107, 101]⟩, ⟨#[108, 101, 97, 115, 101, 45, 112, 114, 101, 102, 105, 120]⟩, ⟨#[114, 111, 116, 97, 116, 101]⟩, ⟨#[114, 101, 107, 101, 121, 45, 115, 116, 97, 114, 116]⟩, ⟨#[114, 101, 107, 101, 121, 45, 115, 104, 97, 114, 101]⟩, ⟨#[114, 101, 107, 101, 121, 45, 99, 97, 110, 99, 101, 108]⟩, ⟨#[114, 111, 111, 116, 45, 115, 116, 97, 114, 116]⟩, ⟨#[114, 111, 111, 116, 45, 115, 104, 97, 114, 101]⟩, ⟨#[114, 111, 111, 116, 45, 99, 97, 110, 99, 101, 108]⟩, ⟨#[97, 117, 100, 105, 116, 45, 104, 101, 97, 100]⟩]
def nmF (k : Nat) : ByteArray := nmL.getD k ⟨#[]⟩
def arL : List Nat := [0, 2, 1, 0, 0, 2, 1, 1, 1, 1, 0, 1, 0, 0, 3, 1, 1, 0, 1, 2, 1, 0, 0, 2, 2, 0, 0, 2, 0, 0]
def arF (k : Nat) : Nat := arL.getD k 0
def opL : List Bool := [false, true, true, false, true, false, false, false, false, false, false, false, false, false, false, false, false, false, false, false, false, false, false, false, false, false, true, true, true, false]
def opF (k : Nat) : Bool := opL.getD k false
def scL : List Int := [-1, -1, 0, -1, -1, 0, -1, -1, -1, -1, -1, -1, -1, -1, -1, -1, -1, -1, -1, -1, -1, -1, -1, -1, 1, -1, -1, 1, -1, -1]
def scF (k : Nat) : Int := scL.getD k (-1)
theorem nm_inj : ∀ i, i < 30 → ∀ j, j < 30 → nmF i = nmF j → i = j := by
  have h : ∀ i, i < 30 → ∀ j, j < 30 → (nmF i).data = (nmF j).data → i = j := by decide +kernel
  intro i hi j hj e; exact h i hi j hj (congrArg ByteArray.data e)
theorem ar_le : ∀ k, arF k ≤ 3 := by
  intro k
  have h : ∀ i, i < 30 → arF i ≤ 3 := by decide +kernel
  by_cases e : k < 30
  · exact h k e
  · have : arF k = 0 := by unfold arF; rw [List.getD_eq_getElem?_getD, List.getElem?_eq_none (by show 30 ≤ k; omega)]; rfl
    omega
theorem thirty {p : Nat → Prop} (k : Nat) (h1 : 1 ≤ k) (h2 : k < 30) (h1x : p 1) (h2x : p 2) (h3x : p 3) (h4x : p 4) (h5x : p 5) (h6x : p 6) (h7x : p 7) (h8x : p 8) (h9x : p 9) (h10x : p 10) (h11x : p 11) (h12x : p 12) (h13x : p 13) (h14x : p 14) (h15x : p 15) (h16x : p 16) (h17x : p 17) (h18x : p 18) (h19x : p 19) (h20x : p 20) (h21x : p 21) (h22x : p 22) (h23x : p 23) (h24x : p 24) (h25x : p 25) (h26x : p 26) (h27x : p 27) (h28x : p 28) (h29x : p 29) : p k := by
  have : k = 1 ∨ k = 2 ∨ k = 3 ∨ k = 4 ∨ k = 5 ∨ k = 6 ∨ k = 7 ∨ k = 8 ∨ k = 9 ∨ k = 10 ∨ k = 11 ∨ k = 12 ∨ k = 13 ∨ k = 14 ∨ k = 15 ∨ k = 16 ∨ k = 17 ∨ k = 18 ∨ k = 19 ∨ k = 20 ∨ k = 21 ∨ k = 22 ∨ k = 23 ∨ k = 24 ∨ k = 25 ∨ k = 26 ∨ k = 27 ∨ k = 28 ∨ k = 29 := by omega
  rcases this with rfl | rfl | rfl | rfl | rfl | rfl | rfl | rfl | rfl | rfl | rfl | rfl | rfl | rfl | rfl | rfl | rfl | rfl | rfl | rfl | rfl | rfl | rfl | rfl | rfl | rfl | rfl | rfl | rfl <;> assumption
/-- What a name asks for. -/
def FN (S : ByteArray) (n : Nat) : Prop := (n = 0 ∧ ∀ k, 1 ≤ k → k < 30 → nmF k ≠ S) ∨ (1 ≤ n ∧ n < 30 ∧ nmF n = S)
theorem fn_ex (S : ByteArray) : ∃ n, FN S n := by
  by_cases h : ∃ k, 1 ≤ k ∧ k < 30 ∧ nmF k = S
  · obtain ⟨k, h1, h2, h3⟩ := h; exact ⟨k, .inr ⟨h1, h2, h3⟩⟩
  · exact ⟨0, .inl ⟨rfl, fun k h1 h2 e => h ⟨k, h1, h2, e⟩⟩⟩
theorem FN.ne {S : ByteArray} {n k : Nat} (h : FN S n) (h1 : 1 ≤ k) (h2 : k < 30) (hk : k ≠ n) : nmF k ≠ S := by
  rcases h with ⟨_, h⟩ | ⟨a, b, c⟩
  · exact h k h1 h2
  · intro e; exact hk (nm_inj k h2 n b (e.trans c.symm))
theorem FN.lt {S : ByteArray} {n : Nat} (h : FN S n) : n < 30 := by
  rcases h with ⟨rfl, _⟩ | ⟨_, h, _⟩ <;> omega
theorem FN.eq {S : ByteArray} {n : Nat} (h : FN S n) (h1 : 1 ≤ n) : nmF n = S := by
  rcases h with ⟨rfl, _⟩ | ⟨_, _, h⟩
  · omega
  · exact h
theorem fn_nm (k : Nat) (h1 : 1 ≤ k) (h2 : k < 30) : FN (nmF k) k := .inr ⟨h1, h2, rfl⟩
/-- The names lie in the program's variable. -/
def NV (w : World) : Prop := ∀ k, k < 30 → w.cell? ⟨0, k, none⟩ = some (.string (nmF k))
theorem NV.later {w w' : World} (h : NV w) (hb : Below w.heap.size w w') : NV w' := fun k hk => cell_below hb (h k hk)
theorem NV.cell {w : World} (h : NV w) {k : Nat} (hk : k < 30) : w.cell? ⟨0, k, none⟩ = some (.string (nmF k)) := h k hk
def nmV : List Value := nmL.map Value.string
theorem nmV_len : nmV.length = 30 := rfl
theorem nmV_get {k : Nat} (hk : k < 30) : nmV[k]? = some (.string (nmF k)) := by
  unfold nmV
  rw [List.getElem?_map]
  have hl : k < nmL.length := hk
  unfold nmF
  rw [List.getD_eq_getElem?_getD, List.getElem?_eq_getElem hl]; rfl
theorem NV.range {w : World} (h : NV w) : w.rangeAt 0 0 nmV := fun j v hv => by
  have hj : j < 30 := by have := (List.getElem?_eq_some_iff.1 hv).1; rw [nmV_len] at this; exact this
  rw [nmV_get hj] at hv
  rw [Nat.zero_add, h j hj]; exact hv
theorem exec_index_nm {o : Oper} {a : Act} {w : World} {x y : Operand} {k : Nat} (ho : o.op = .index 116 x y) (hx : a.eval x = .agg nmV.toArray) (hy : a.eval y = .int .i64 (k : Nat)) (hk : k < 30) : (execOp a.eval o).run Tryd.prog w = .ok (.value (.string (nmF k))) w := by
  have h1 := nmV_get hk
  have h2 : nmV.toArray[k]? = some (.string (nmF k)) := by simpa using h1
  have hs : (Tryd.prog.info? 9).map (·.size) = some 1 := by kernel_rfl
  have hr : (Instr.index 116 (.agg nmV.toArray) (.int .i64 (k : Nat))).run Tryd.prog w = .ok (.string (nmF k)) w := by
    have b : (0 : Int) ≤ (k : Int) ∧ (k : Int) < 30 := by omega
    simp [Instr.index, run_underlying Tryd.underlying116, asIntOf, hk, sizeOf, typeInfo, part, isAgg, underlying, Tryd.underlying9, h2, Result.andThen, hs]
    cases hi : Tryd.prog.info? 9 with
    | none => rw [hi] at hs; cases hs
    | some i =>
      rw [hi] at hs
      have e : i.size = 1 := Option.some.inj hs
      simp [e, h1]
  unfold execOp
  simp only [ho, hx, hy, hr, Sem.run_bind, Result.andThen_ok]
  rfl
set_option maxRecDepth 100000 in
theorem isop_any (z : Int) (w : World) (h1 : -9223372036854775808 ≤ z) (h2 : z ≤ 9223372036854775807) :
    Calls Tryd.prog 64 #[.int .i64 z] w fun e w' => e = .returned (.bool (decide (1 ≤ z ∧ z < 30))) ∧ w = w' := by
  go_enter Tryd.func64, Tryd.ntmps64
  by_cases a : 1 ≤ z
  · by_cases b : z < 30
    · go_wp2_with fail
      go_ret
      exact ⟨by simp [a, b], rfl⟩
    · go_wp2_with fail
      go_ret
      exact ⟨by simp [a, b], rfl⟩
  · go_wp2_with fail
    go_ret
    exact ⟨by simp [a]; omega, rfl⟩
set_option maxRecDepth 100000 in
set_option maxHeartbeats 4000000 in
theorem args_any (k : Nat) (w : World) (h1 : 1 ≤ k) (h2 : k < 30) :
    Calls Tryd.prog 17 #[.int .i64 (k : Nat)] w fun e w' => e = .returned (.int .i64 (arF k : Nat)) ∧ w = w' := by
  refine thirty (p := fun k => Calls Tryd.prog 17 #[.int .i64 (k : Nat)] w fun e w' => e = .returned (.int .i64 (arF k : Nat)) ∧ w = w') k h1 h2 ?_ ?_ ?_ ?_ ?_ ?_ ?_ ?_ ?_ ?_ ?_ ?_ ?_ ?_ ?_ ?_ ?_ ?_ ?_ ?_ ?_ ?_ ?_ ?_ ?_ ?_ ?_ ?_ ?_
  all_goals (go_enter Tryd.func17, Tryd.ntmps17; go_wp2; go_ret; exact ⟨rfl, rfl⟩)
set_option maxRecDepth 100000 in
set_option maxHeartbeats 4000000 in
theorem open_any (k : Nat) (w : World) (h1 : 1 ≤ k) (h2 : k < 30) :
    Calls Tryd.prog 18 #[.int .i64 (k : Nat)] w fun e w' => e = .returned (.bool (opF k)) ∧ w = w' := by
  refine thirty (p := fun k => Calls Tryd.prog 18 #[.int .i64 (k : Nat)] w fun e w' => e = .returned (.bool (opF k)) ∧ w = w') k h1 h2 ?_ ?_ ?_ ?_ ?_ ?_ ?_ ?_ ?_ ?_ ?_ ?_ ?_ ?_ ?_ ?_ ?_ ?_ ?_ ?_ ?_ ?_ ?_ ?_ ?_ ?_ ?_ ?_ ?_
  all_goals (go_enter Tryd.func18, Tryd.ntmps18; go_wp2; go_ret; exact ⟨rfl, rfl⟩)
set_option maxRecDepth 100000 in
set_option maxHeartbeats 4000000 in
theorem secret_any (k : Nat) (i : Int) (w : World) (h1 : 1 ≤ k) (h2 : k < 30) :
    Calls Tryd.prog 19 #[.int .i64 (k : Nat), .int .i64 i] w fun e w' => e = .returned (.bool (decide (scF k = i ∧ 0 ≤ scF k))) ∧ w = w' := by
  refine thirty (p := fun k => Calls Tryd.prog 19 #[.int .i64 (k : Nat), .int .i64 i] w fun e w' => e = .returned (.bool (decide (scF k = i ∧ 0 ≤ scF k))) ∧ w = w') k h1 h2 ?_ ?_ ?_ ?_ ?_ ?_ ?_ ?_ ?_ ?_ ?_ ?_ ?_ ?_ ?_ ?_ ?_ ?_ ?_ ?_ ?_ ?_ ?_ ?_ ?_ ?_ ?_ ?_ ?_
  all_goals (go_enter Tryd.func19, Tryd.ntmps19; go_wp2; go_ret; first | exact ⟨rfl, rfl⟩ | (refine ⟨?_, rfl⟩; simp [scF, scL]; omega) | (refine ⟨?_, rfl⟩; simp [scF, scL]; exact decide_eq_decide.2 ⟨Eq.symm, Eq.symm⟩) | (refine ⟨?_, rfl⟩; simp [scF, scL]; done))
set_option maxRecDepth 100000 in
set_option maxHeartbeats 4000000 in
theorem args_out (z : Int) (w : World) (hz : z < 1 ∨ 29 < z) :
    Calls Tryd.prog 17 #[.int .i64 z] w fun e w' => e = .returned (.int .i64 0) ∧ w = w' := by
  have e14 : ¬ z = 14 := by omega
  have e1 : ¬ z = 1 := by omega
  have e5 : ¬ z = 5 := by omega
  have e19 : ¬ z = 19 := by omega
  have e23 : ¬ z = 23 := by omega
  have e24 : ¬ z = 24 := by omega
  have e27 : ¬ z = 27 := by omega
  have e2 : ¬ z = 2 := by omega
  have e6 : ¬ z = 6 := by omega
  have e7 : ¬ z = 7 := by omega
  have e8 : ¬ z = 8 := by omega
  have e9 : ¬ z = 9 := by omega
  have e11 : ¬ z = 11 := by omega
  have e15 : ¬ z = 15 := by omega
  have e16 : ¬ z = 16 := by omega
  have e18 : ¬ z = 18 := by omega
  have e20 : ¬ z = 20 := by omega
  clear hz
  go_enter Tryd.func17, Tryd.ntmps17
  go_wp2_with fail
  go_ret
  exact ⟨rfl, rfl⟩
set_option maxRecDepth 100000 in
set_option maxHeartbeats 4000000 in
theorem open_out (z : Int) (w : World) (hz : z < 1 ∨ 29 < z) :
    Calls Tryd.prog 18 #[.int .i64 z] w fun e w' => e = .returned (.bool false) ∧ w = w' := by
  have e1 : ¬ z = 1 := by omega
  have e2 : ¬ z = 2 := by omega
  have e4 : ¬ z = 4 := by omega
  have e26 : ¬ z = 26 := by omega
  have e27 : ¬ z = 27 := by omega
  have e28 : ¬ z = 28 := by omega
  clear hz
  go_enter Tryd.func18, Tryd.ntmps18
  go_wp2_with fail
  go_ret
  exact ⟨rfl, rfl⟩
set_option maxRecDepth 100000 in
set_option maxHeartbeats 4000000 in
theorem secret_out (z : Int) (i : Int) (w : World) (hz : z < 1 ∨ 29 < z) :
    Calls Tryd.prog 19 #[.int .i64 z, .int .i64 i] w fun e w' => e = .returned (.bool false) ∧ w = w' := by
  have e2 : ¬ z = 2 := by omega
  have e5 : ¬ z = 5 := by omega
  have e24 : ¬ z = 24 := by omega
  have e27 : ¬ z = 27 := by omega
  clear hz
  go_enter Tryd.func19, Tryd.ntmps19
  go_wp2_with fail
  go_ret
  exact ⟨rfl, rfl⟩
set_option maxRecDepth 100000 in
set_option maxHeartbeats 4000000 in
theorem name_out (z : Int) (w : World) (hz : z < 1 ∨ 29 < z) (h1 : -9223372036854775808 ≤ z) (h2 : z ≤ 9223372036854775807) :
    Calls Tryd.prog 16 #[.int .i64 z] w fun e w' => e = .returned (.string ⟨#[]⟩) ∧ w = w' := by
  have e0 : decide (1 ≤ z ∧ z < 30) = false := decide_eq_false (by omega)
  have hc := isop_any z w h1 h2
  rw [e0] at hc
  clear hz e0
  go_enter Tryd.func16, Tryd.ntmps16
  go_wp2_with fail
  refine hc.mono ?_
  rintro e w1 ⟨rfl, rfl⟩
  go_wp2_with fail
  go_ret
  exact ⟨rfl, rfl⟩
set_option maxRecDepth 100000 in
set_option maxHeartbeats 4000000 in
theorem name_any (k : Nat) (w : World) (h1 : 1 ≤ k) (h2 : k < 30) (hv : NV w) :
    Calls Tryd.prog 16 #[.int .i64 (k : Nat)] w fun e w' => e = .returned (.string (nmF k)) ∧ w = w' := by
  have e0 : decide (1 ≤ (k : Int) ∧ (k : Int) < 30) = true := decide_eq_true (by omega)
  have hc := isop_any k w (by omega) (by omega)
  rw [e0] at hc
  have hcell := hv.cell h2
  have a1 : (0 : Int) ≤ (k : Int) := by omega
  have a2 : (k : Int) < 30 := by omega
  clear e0
  go_enter Tryd.func16, Tryd.ntmps16
  go_wp2_with fail
  refine hc.mono ?_
  rintro e w1 ⟨rfl, rfl⟩
  go_wp2_with fail
  go_ret
  exact ⟨rfl, rfl⟩
set_option maxRecDepth 100000 in
set_option maxHeartbeats 4000000 in
theorem find_any (S : ByteArray) (n : Nat) (w : World) (h : FN S n) (hv : NV w) :
    Calls Tryd.prog 15 #[.string S] w fun e w' => e = .returned (.int .i64 (n : Nat)) ∧ w = w' := by
  have HF := Lib.hid h
  have HR := Lib.hid hv.range
  have HI : Hid ((Tryd.prog.info? 116).map (·.size) = some nmV.length) := Lib.hid (by rw [nmV_len]; kernel_rfl)
  clear h hv
  go_enter Tryd.func15, Tryd.ntmps15
  go_wp2_with (refine wpList_load_mid rfl 116 (.global 0) rfl 0 0 rfl nmV _ HR.out Tryd.underlying116 rfl HI.out ?_)
  obtain ⟨Z, hZ⟩ : ∃ Z, nmV.toArray = Z := ⟨_, rfl⟩
  rw [hZ]
  have HZ := Lib.hid hZ
  clear hZ
  go_loopw [6] (fun v wr => ∃ k : Nat, k ≤ 30 ∧ v = .int .i64 (k : Int) ∧ (n = 0 ∨ k ≤ n) ∧ w = wr) (fun v _ => 30 - (intOf v).toNat)
  case atStart => exact ⟨0, by omega, rfl, by omega, rfl⟩
  case round =>
    obtain ⟨k, hk, rfl, hkn, rfl⟩ := hrel
    by_cases hlt : k < 30
    · as_aux_lemma =>
      have a1 : (k : Int) < 30 := by omega
      have a0 : (0 : Int) ≤ (k : Int) := by omega
      obtain ⟨X, hX⟩ : ∃ X, nmF k = X := ⟨_, rfl⟩
      obtain ⟨k2, hk2⟩ : ∃ z, k + 1 = z := ⟨_, rfl⟩
      have iw : IntKind.i64.wrap ((k : Int) + 1) = (k2 : Int) := by rw [IntWalk.i64_in _ (by omega)]; omega
      have HK : Hid (k < 30 ∧ k + 1 = k2 ∧ nmF k = X ∧ (n = 0 ∨ k ≤ n)) := Lib.hid ⟨hlt, hk2, hX, hkn⟩
      have hcs : (1 ≤ k ∧ k = n) ∨ (k ≠ n ∧ 1 ≤ k) ∨ k = 0 := by omega
      clear hk hkn hlt hk2 hX
      have ops := isop_any k w (by omega) (by omega)
      rcases hcs with ⟨c1, rfl⟩ | ⟨c1, c2⟩ | rfl
      · have e : X = S := by rw [← HK.out.2.2.1]; exact HF.out.eq c1
        subst e
        have ed : decide (1 ≤ (k : Int) ∧ (k : Int) < 30) = true := decide_eq_true (by omega)
        rw [ed] at ops
        have HO := Lib.hid ops
        clear ops ed
        go_wp2_with (refine wpList_value rfl (exec_index_nm (x := .tmp 5) (y := .tmp 6) rfl (by rw [HZ.out]; rfl) rfl HK.out.1) ?_; rw [HK.out.2.2.1])
        refine HO.out.mono ?_
        rintro e w1 ⟨rfl, rfl⟩
        go_wp2_with fail
        go_ret
        exact ⟨rfl, rfl⟩
      · have e : X ≠ S := by rw [← HK.out.2.2.1]; exact HF.out.ne c2 HK.out.1 c1
        have n1 := str_ne e
        have n2 : (X.toList == S.toList) = false := by simpa using n1
        clear e ops
        have HC : Hid (k ≠ n) := Lib.hid c1
        clear c1 c2
        go_wp2_with (refine wpList_value rfl (exec_index_nm (x := .tmp 5) (y := .tmp 6) rfl (by rw [HZ.out]; rfl) rfl HK.out.1) ?_; rw [HK.out.2.2.1])
        go_roundw
        case rel => exact ⟨k2, by have := HK.out; omega, by first | rfl | go_num, by have := HK.out; have := HC.out; omega, by first | rfl | trivial⟩
        case measure => have := HK.out; simp [intOf] <;> omega
      · obtain rfl : k2 = 1 := by have := HK.out.2.1; omega
        by_cases e : X = S
        · subst e
          have ed : decide (1 ≤ ((0 : Nat) : Int) ∧ ((0 : Nat) : Int) < 30) = false := by decide
          rw [ed] at ops
          have HO := Lib.hid ops
          clear ops ed
          go_wp2_with (refine wpList_value rfl (exec_index_nm (k := 0) (x := .tmp 5) (y := .tmp 6) rfl (by rw [HZ.out]; rfl) rfl HK.out.1) ?_; rw [HK.out.2.2.1])
          refine HO.out.mono ?_
          rintro e w1 ⟨rfl, rfl⟩
          go_wp2_with fail
          go_roundw
          case rel => exact ⟨1, by omega, by first | rfl | go_num, by omega, by first | rfl | trivial⟩
          case measure => simp [intOf] <;> omega
        · have n1 := str_ne e
          have n2 : (X.toList == S.toList) = false := by simpa using n1
          clear e ops
          go_wp2_with (refine wpList_value rfl (exec_index_nm (k := 0) (x := .tmp 5) (y := .tmp 6) rfl (by rw [HZ.out]; rfl) rfl HK.out.1) ?_; rw [HK.out.2.2.1])
          go_roundw
          case rel => exact ⟨1, by omega, by first | rfl | go_num, by omega, by first | rfl | trivial⟩
          case measure => simp [intOf] <;> omega
    · obtain rfl : k = 30 := by omega
      have hn : n = 0 := by have := HF.out.lt; omega
      subst hn
      clear hlt hk hkn
      go_wp2_with fail
      go_ret
      exact ⟨rfl, rfl⟩
end Go.Proofs.YtmabhjifldafaaaDoor
