/- The heads of a list of entries. -/
import Derived.Test.YtmabhjifldafaaaDoorCh1
import Derived.Test.YtmabhjifldafaaaDoorRws
import Derived.Great.BuildSlice
namespace Go.Proofs.YtmabhjifldafaaaDoor
set_option linter.unusedVariables false
set_option linter.unusedSimpArgs false
open Go.RowKit

theorem load_u64 {w : World} {b f : Nat} {k : Int} (h : w.cell? ⟨b, f, none⟩ = some (.int .u64 k)) : (loadVar 62 ⟨b, f, none⟩).run Tryd.prog w = .ok (.int .u64 k) w := by
  have hu := Tryd.underlying62
  go_simp
theorem bs_head (k : Nat) (S : Nat → Nat) (w : World) : (Instr.buildSlice 129 1 #[(0, .agg (hdL k S).toArray)]).run Tryd.prog w = .ok (.slice (some ⟨w.heap.size, 0, none⟩) 1 1) (w.alloc (.cells (hdL k S).toArray 65)) := by kernel_rfl
theorem wpList_bs {ops : Array Oper} {rest : List Oper} {o : Oper} {a : Act} {w : World} {Q : Exit → Act → World → Prop} (hgd : o.guard = none) (x : Operand) (ho : o.op = .buildSlice 129 1 #[(0, x)]) (C : Array Value) (hx : a.eval x = .agg C)
    (h : ∀ w, (Instr.buildSlice 129 1 #[(0, .agg C)]).run Tryd.prog w = .ok (.slice (some ⟨w.heap.size, 0, none⟩) 1 1) (w.alloc (.cells C 65)))
    (hk : wpList Tryd.prog ops Q rest (a.put o.dst (.slice (some ⟨w.heap.size, 0, none⟩) 1 1)) (w.alloc (.cells C 65))) : wpList Tryd.prog ops Q (o :: rest) a w := by
  refine wpList_plain hgd fun K hK => ?_
  have e : (#[((0 : Nat), x)].map fun (i, x) => (i, a.eval x)) = #[(0, .agg C)] := by simp [hx]
  unfold Oper.wp execOp
  simp only [ho, e, h, Sem.run_bind, Result.andThen_ok]
  exact hK _ _ hk
/-- The heads so far, and the last one's block. -/
structure HZ (w0 : World) (n : Nat) (K : Nat → Nat) (L : Nat → Nat) (G : Nat → Nat → Nat) (i : Nat) (v : Value) (wr : World) : Prop where
  b : Blk wr w0.heap.size (hdL i (hs n K L G i)).toArray 65
  a : wr.ownsRow (w0.heap.size + 1) 65 33 v (i + 1) (rws (i + 1) fun j => hdL j (hs n K L G j))
  o : Below w0.heap.size w0 wr
theorem HZ.lt {w0 : World} {n : Nat} {K : Nat → Nat} {L : Nat → Nat} {G : Nat → Nat → Nat} {i : Nat} {v : Value} {wr : World} (h : HZ w0 n K L G i v wr) : w0.heap.size < wr.heap.size := Blk.lt h.b
/-- The heads lie in a row. -/
def HR (w : World) (b q : Nat) (H : Nat → Nat → Nat) : Prop := ∀ i, i ≤ q → w.rangeAt b (i * 33) (hdL i (H i))
theorem HR.later {w w' : World} {b q : Nat} {H : Nat → Nat → Nat} (h : HR w b q H) (hb : Below w.heap.size w w') : HR w' b q H := fun i hi j v hv => cell_below hb (h i hi j v hv)
theorem HZ.row {w0 : World} {n : Nat} {K : Nat → Nat} {L : Nat → Nat} {G : Nat → Nat → Nat} {q : Nat} {v : Value} {wr : World} (h : HZ w0 n K L G q v wr) : ∃ b c, v = .slice (some ⟨b, 0, none⟩) (q + 1) c ∧ q + 1 ≤ c ∧ HR wr b q (hs n K L G) := by
  obtain ⟨oa, c, hv, hc, _, _, hh⟩ := rws_cells h.a (fun i _ => hdL_len _ _)
  obtain ⟨b, off, e1, e2, _⟩ := hh 0 0 (by omega) (by omega)
  subst e1 e2
  refine ⟨b, c, hv, hc, fun i hi j v hv => ?_⟩
  have hj : j < 33 := by have := (List.getElem?_eq_some_iff.1 hv).1; rw [hdL_len] at this; exact this
  obtain ⟨b', off', e1, e2, e3⟩ := hh i j (by omega) hj
  cases e1
  rw [Nat.zero_add] at e3
  rw [e3]; exact hv
theorem HZ.next {w0 : World} {n : Nat} {K : Nat → Nat} {L : Nat → Nat} {G : Nat → Nat → Nat} {i j g c : Nat} {N : Nat → Nat} {v' : Value} {wn wq : World} (hj : i + 1 = j) (hN : hs n K L G j = N)
    (hB : Blk wn w0.heap.size (hdL j N).toArray 65) (hA : wn.ownsRow (w0.heap.size + 1) 65 33 (.slice (some ⟨g, 0, none⟩) (i + 1) c) (i + 1) (rws (i + 1) fun j => hdL j (hs n K L G j))) (hO : Below w0.heap.size w0 wn)
    (hown : wq.ownsRow (w0.heap.size + 1) 65 33 v' (i + 1 + 1) ((rws (i + 1) fun j => hdL j (hs n K L G j)) ++ hdL j N)) (hg : wn.grownBy wq (Value.ownBlock (.slice (some ⟨g, 0, none⟩) (i + 1) c))) :
    ∃ g' c', v' = .slice (some ⟨g', 0, none⟩) (j + 1) c' ∧ HZ w0 n K L G j (.slice (some ⟨g', 0, none⟩) (j + 1) c') wq := by
  subst hj hN
  have hge : w0.heap.size + 1 ≤ g := owns_block hA g rfl
  have hOw := own_of_grown hg
  have h1 : HZ w0 n K L G (i + 1) v' wq := ⟨hOw.blk hB (by show w0.heap.size ≠ g; omega), by rw [rws_succ]; exact hown, hO.trans (hOw.below (show w0.heap.size ≤ g by omega) hO.size)⟩
  obtain ⟨b, c, e, _⟩ := h1.row
  exact ⟨b, c, e, e ▸ h1⟩
theorem own_of_grown' {w w' : World} {v : Value} (hg : w.grownBy w' v.ownBlock) : Own (v.ownBlock.getD w.heap.size) w w' := own_of_grown hg
set_option maxRecDepth 100000 in
set_option maxHeartbeats 8000000 in
theorem heads_any (oa : Option Addr) (n cn : Nat) (K : Nat → Nat) (op : Option Addr) (q cq : Nat) (L : Nat → Nat) (G : Nat → Nat → Nat) (w : World) (hK : Bytes w oa n K) (hnc : n ≤ cn) (hno : oa = none → n = 0) (hn : n < 100000000) (hL : LBs w op q L G) (hq : q ≤ 100) (hl : ∀ i, i < q → L i ≤ 100000) (hg : GV w) :
    Calls Tryd.prog 75 #[.slice oa n cn, .slice op q cq] w fun e w' => ∃ b c, e = .returned (.slice (some ⟨b, 0, none⟩) (q + 1) c) ∧ q + 1 ≤ c ∧ HR w' b q (hs n K L G) ∧ Below w.heap.size w w' := by
  have hz := zero_h1
  have HKB : Hid (∀ w', Below w.heap.size w w' → Bytes w' oa n K) := Lib.hid fun w' h => hK.later h
  have HLB : Hid (∀ w', Below w.heap.size w w' → LBs w' op q L G) := Lib.hid fun w' h => hL.later h
  have HGV : Hid (∀ w', Below w.heap.size w w' → GV w') := Lib.hid fun w' h => hg.later h
  have HNM : Hid (n ≤ cn ∧ n < 100000000 ∧ q ≤ 100 ∧ (oa = none → n = 0) ∧ ∀ i, i < q → L i ≤ 100000) := Lib.hid ⟨hnc, hn, hq, hno, hl⟩
  have HIZ : Hid ((Tryd.prog.info? 65).map (·.size) = some zeroH.size) := Lib.hid (by rw [zeroH_size]; exact info_h1)
  have HBZ : Hid (∀ w, (Instr.buildSlice 129 1 #[(0, .agg zeroH)]).run Tryd.prog w = .ok (.slice (some ⟨w.heap.size, 0, none⟩) 1 1) (w.alloc (.cells zeroH 65))) := Lib.hid (bs_head 0 (fun _ => 0))
  have hl0 := laidHd w zeroH zeroH 65 rfl
  obtain ⟨w1, hw1⟩ : ∃ x, (w.alloc (.cells zeroH 65)).setCells w.heap.size 0 zeroH.toList = x := ⟨_, rfl⟩
  rw [hw1] at hl0
  obtain ⟨w2, hw2⟩ : ∃ x, w1.alloc (.cells zeroH 65) = x := ⟨_, rfl⟩
  have H1 := Lib.hid hl0
  have hs1 : w.heap.size + 1 ≤ w1.heap.size := Blk.lt H1.out.1
  have H2 : Hid (HZ w n K L G 0 (.slice (some ⟨w1.heap.size, 0, none⟩) 1 1) w2) := Lib.hid (by
    have hb2 : Below w1.heap.size w1 w2 := by rw [← hw2]; exact (Below.refl _ _).alloc (Nat.le_refl _) _
    have hN : Blk w2 w1.heap.size zeroH 65 := by rw [← hw2]; exact Blk.new _ _ _
    refine ⟨Blk.below H1.out.1 hb2 (Blk.lt H1.out.1), ⟨rws_len (k := 33) fun i _ => hdL_len _ _, .inr ⟨w1.heap.size, 1, zeroH, rfl, hs1, hN, Nat.le_refl _, by unfold maxLen; decide, zeroH_size, ?_⟩⟩, H1.out.2.1.trans (hb2.mono H1.out.2.1.size)⟩
    rw [rws_succ, rws_zero, List.nil_append]
    exact List.take_of_length_le (by show zeroH.toList.length ≤ _; rw [Array.length_toList, zeroH_size]; exact Nat.le_refl _))
  have hq0 : (q : Int) ≤ 9223372036854775807 := by omega
  have HHS := Lib.hid hs1
  clear hl0 hK hnc hno hn hL hq hl hg hs1
  go_enter Tryd.func75, Tryd.ntmps75
  go_wp2_with (first
    | (refine wpList_value rfl (exec_buildM (C := zeroH) rfl rfl build_z1) ?_)
    | (refine wpList_store_mid rfl 65 (.tmp 5) (.tmp 9) rfl w.heap.size 0 zeroH rfl rfl H1.out.2.2 HIZ.out zeroH_one ?_; rw [hw1])
    | (refine wpList_load_row rfl 65 (.tmp 5) rfl w.heap.size rfl 65 zeroH (0, 0) _ H1.out.1 Tryd.underlying65 rfl HIZ.out ?_)
    | (refine wpList_bs rfl (.tmp 10) rfl zeroH rfl HBZ.out ?_; rw [hw2]))
  clear hw1 hw2 hz
  go_loopw [6, 14] (fun v x wr => ∃ (i g c : Nat), i ≤ q ∧ x = .int .i64 (i : Int) ∧ v = .slice (some ⟨g, 0, none⟩) (i + 1) c ∧ HZ w n K L G i (.slice (some ⟨g, 0, none⟩) (i + 1) c) wr) (fun _ x _ => q - (intOf x).toNat)
  case atStart => exact ⟨0, w1.heap.size, 1, Nat.zero_le _, rfl, rfl, H2.out⟩
  case round =>
    obtain ⟨i, g, c6, hi, rfl, rfl, hX⟩ := hrel
    have HX := Lib.hid hX
    clear hX
    by_cases hlt : i < q
    · as_aux_lemma =>
      have i1 : (i : Int) < (q : Int) := by omega
      have i0 : (0 : Int) ≤ (i : Int) := by omega
      obtain ⟨b, off, od, cp, rfl, hc, hlc, hbd, hod, _⟩ := HLB.out w (Below.refl _ w) i hlt
      obtain ⟨m, hm⟩ : ∃ x, L i = x := ⟨_, rfl⟩
      obtain ⟨M, hM⟩ : ∃ x, G i = x := ⟨_, rfl⟩
      obtain ⟨Z, hZ⟩ : ∃ x, hs n K L G i = x := ⟨_, rfl⟩
      obtain ⟨N, hN⟩ : ∃ x, nx n K Z m M = x := ⟨_, rfl⟩
      obtain ⟨j, hj⟩ : ∃ x, i + 1 = x := ⟨_, rfl⟩
      obtain ⟨C, hC⟩ : ∃ C, (hdL i Z).toArray = C := ⟨_, rfl⟩
      obtain ⟨CN, hCN⟩ : ∃ C, (rowC 32 N).toArray = C := ⟨_, rfl⟩
      obtain ⟨CH, hCH⟩ : ∃ C, (hdL j N).toArray = C := ⟨_, rfl⟩
      rw [hm] at hc hlc hbd hod
      rw [hM] at hbd
      have c0 : wr.cell? ⟨b, off + i, none⟩ = some (.slice od m cp) := cell_below HX.out.o hc
      have q2 : IntKind.u64.wrap ((i : Int) + 1) = (j : Int) := by have := HNM.out.2.2.1; rw [IntWalk.u64_in _ (by omega)]; omega
      have q3 : IntKind.i64.wrap ((i : Int) + 1) = (j : Int) := by have := HNM.out.2.2.1; rw [IntWalk.i64_in _ (by omega)]; omega
      have HJ : Hid (i < q ∧ i + 1 = j ∧ m ≤ 100000 ∧ m ≤ cp) := Lib.hid ⟨hlt, hj, by rw [← hm]; exact HNM.out.2.2.2.2 i hlt, hlc⟩
      have HMB : Hid (∀ w', Below w.heap.size w w' → Bytes w' od m M) := Lib.hid fun w' h => hbd.later h
      have HMO := Lib.hid hod
      have HS : Hid (∀ i, i < 32 → Z i < 256) := Lib.hid fun k _ => by rw [← hZ]; exact hs_lt _ _ _ _ _ _
      have HCE := Lib.hid hC
      have HNX : Hid (hmN n K (32 + m) (catF 32 Z M) = N) := Lib.hid hN
      have HCN := Lib.hid hCN
      have HCH := Lib.hid hCH
      have HHN : Hid (hs n K L G j = N) := Lib.hid (by rw [← hj, ← hN, ← hm, ← hM, ← hZ]; rfl)
      have HHZ : Hid (hs n K L G i = Z) := Lib.hid hZ
      have HIC : Hid ((Tryd.prog.info? 65).map (·.size) = some C.size) := Lib.hid (by rw [← hC, hd_size]; exact info_h1)
      have HIH : Hid ((Tryd.prog.info? 65).map (·.size) = some CH.size) := Lib.hid (by rw [← hCH, hd_size]; exact info_h1)
      have HIO : Hid (CH.all (·.oneCell') = true) := Lib.hid (by rw [← hCH]; exact hd_one _ _)
      have HIS : Hid (CH.size = C.size) := Lib.hid (by rw [← hCH, ← hC, hd_size, hd_size])
      have HBD : Hid (∀ w, (Instr.build 65 #[(0, .int .u64 (j : Int)), (1, .agg CN)]).run Tryd.prog w = .ok (.agg CH) w) := Lib.hid (by rw [← hCN, ← hCH]; exact build_h1 j N)
      have HBS : Hid (∀ w, (Instr.buildSlice 129 1 #[(0, .agg CH)]).run Tryd.prog w = .ok (.slice (some ⟨w.heap.size, 0, none⟩) 1 1) (w.alloc (.cells CH 65))) := Lib.hid (by rw [← hCH]; exact bs_head j N)
      have HC0 : Hid (∀ w', Blk w' w.heap.size C 65 → w'.cell? ⟨w.heap.size, 0, none⟩ = some (.int .u64 (i : Int))) := Lib.hid fun w' h => hd_cell0 (n := i) (S := Z) (by rw [hC]; exact h)
      have HSM : Hid (∀ w', Bytes w' od m M → Calls Tryd.prog 74 #[.agg C, .slice od m cp] w' fun e w'' => ∃ o c, e = .returned (.slice o (32 + m) c) ∧ Bytes w'' o (32 + m) (catF 32 Z M) ∧ 32 + m ≤ c ∧ o ≠ none ∧ Below w'.heap.size w' w'') := Lib.hid fun w' h => by rw [← HCE.out]; exact summed_any i Z od m cp M w' HS.out h HMO.out (by have := HJ.out; omega)
      have HMC : Hid (∀ w' o c, Bytes w' oa n K → GV w' → Bytes w' o (32 + m) (catF 32 Z M) → 32 + m ≤ c → Calls Tryd.prog 40 #[.slice oa n cn, .slice o (32 + m) c] w' fun e w'' => e = .returned (.agg CN) ∧ Below w'.heap.size w' w'') := Lib.hid fun w' o c h1 h2 h3 h4 => by
        have := mac_any oa o n cn (32 + m) c K (catF 32 Z M) w' h1 HNM.out.1 HNM.out.2.2.2.1 (by have := HNM.out.2.1; omega) h3 h4 (by have := HJ.out; omega) h2
        rw [HNX.out, HCN.out] at this; exact this
      have HTB : Hid (Blk wr w.heap.size C 65) := Lib.hid (by have := HX.out.b; rw [hZ, hC] at this; exact this)
      have HBW : Hid (∀ w', Own w.heap.size wr w' → Below w.heap.size w w') := Lib.hid fun w' h => HX.out.o.trans (h.below (Nat.le_refl _) HX.out.o.size)
      clear hlt hi hc hlc hbd hod hm hM hZ hN hj hC hCN hCH
      go_wp2_with fail
      clear c0 q3
      have hS_0 : Own w.heap.size wr wr.drew := (Own.refl _ _).drew
      have hZ_0 : Blk wr.drew w.heap.size C 65 := HTB.out.drew
      have hA_0 : wr.drew.ownsRow (w.heap.size + 1) 65 33 (.slice (some ⟨g, 0, none⟩) (i + 1) c6) (i + 1) (rws (i + 1) fun j => hdL j (hs n K L G j)) := HX.out.a
      refine wp_region_held_drew (S := (Own w.heap.size wr)) (by kernel_rfl) ?_ (fun hHeld => ?_)
      · (try dsimp only)
        first | assumption
      generalize wr.drew = W0 at *
      refine wpAnyH_take (i := 0) (oi := { dst := some 18, op := Go.Op.fieldAddr 65 (Go.Operand.tmp 5) 0, type := 0, pos := "chain.go:42", after := #[], guard := none }) (v := ?_) rfl (by kernel_rfl) (by kernel_rfl) (by kernel_rfl) (fun _ _ _ h => h) (Or.inl ⟨by rfl, ?_⟩) (by assumption) ?_
      rotate_left
      · intro wS hSw
        (try dsimp only at hSw)
        go_simp
        (try with_reducible rfl)
      (try simp only [Act.put, List.setIfInBounds_toArray, List.set_cons_zero, List.set_cons_succ])
      refine wpAnyH_take (i := 3) (oi := { dst := some 21, op := Go.Op.move (Go.Operand.tmp 0), type := 33, pos := "chain.go:42", after := #[], guard := none }) (v := ?_) rfl (by kernel_rfl) (by kernel_rfl) (by kernel_rfl) (fun _ _ _ h => h) (Or.inl ⟨by rfl, ?_⟩) (by assumption) ?_
      rotate_left
      · intro wS hSw
        (try dsimp only at hSw)
        go_simp
        (try with_reducible rfl)
      (try simp only [Act.put, List.setIfInBounds_toArray, List.set_cons_zero, List.set_cons_succ])
      refine wpAnyH_take (i := 5) (oi := { dst := some 23, op := Go.Op.move (Go.Operand.tmp 8), type := 33, pos := "chain.go:42", after := #[], guard := none }) (v := ?_) rfl (by kernel_rfl) (by kernel_rfl) (by kernel_rfl) (fun _ _ _ h => h) (Or.inl ⟨by rfl, ?_⟩) (by assumption) ?_
      rotate_left
      · intro wS hSw
        (try dsimp only at hSw)
        go_simp
        (try with_reducible rfl)
      (try simp only [Act.put, List.setIfInBounds_toArray, List.set_cons_zero, List.set_cons_succ])
      refine wpAnyH_ready (rs := [1, 4]) (by kernel_rfl) (by simp) ?_
      refine AllReadyH.cons (o := { dst := some 19, op := Go.Op.load 62 (Go.Operand.tmp 18), type := 62, pos := "chain.go:42", after := #[{ on := 0, ground := Go.Ground.data }], guard := none }) rfl (fun K hK => ?_) ?_
      · skip
        (refine step_valueG (v := .int .u64 (i : Int)) (by kernel_rfl) (exec_loadC (x := .tmp 18) (b := w.heap.size) (f := 0) (by rfl) (by rfl) (load_u64 (HC0.out _ hZ_0))) ?_)
        refine hK.out _ _ ?_ (fun hHeld => ?_)
        · (try dsimp only)
          first | assumption
        clear hK K
        (try simp only [Act.put, List.setIfInBounds_toArray, List.set_cons_zero, List.set_cons_succ])
        refine wpAnyH_take (i := 2) (oi := { dst := some 20, op := Go.Op.binOp Go.BinOp.add 62 (Go.Operand.tmp 19) (Go.Operand.const (Go.Value.int Go.IntKind.u64 1)) 62, type := 62, pos := "chain.go:42", after := #[{ on := 1, ground := Go.Ground.data }], guard := none }) (v := ?_) rfl (by kernel_rfl) (by kernel_rfl) (by kernel_rfl) (fun _ _ _ h => h) (Or.inl ⟨by rfl, ?_⟩) (by assumption) ?_
        rotate_left
        · intro wS hSw
          (try dsimp only at hSw)
          go_simp
          (try with_reducible rfl)
        (try simp only [Act.put, List.setIfInBounds_toArray, List.set_cons_zero, List.set_cons_succ])
        refine wpAnyH_ready (rs := [4]) (by kernel_rfl) (by simp) ?_
        refine AllReadyH.cons (o := { dst := some 22, op := Go.Op.load 65 (Go.Operand.tmp 5), type := 65, pos := "chain.go:42", after := #[], guard := none }) rfl (fun K hK => ?_) AllReadyH.nil
        (refine step_valueG (v := .agg C) (by kernel_rfl) (exec_loadB (x := .tmp 5) (g := w.heap.size) (t := 65) (by rfl) (by rfl) hZ_0 Tryd.underlying65 rfl HIC.out) ?_)
        refine hK.out _ _ ?_ (fun hHeld => ?_)
        · (try dsimp only)
          first | assumption
        clear hK K
        (try simp only [Act.put, List.setIfInBounds_toArray, List.set_cons_zero, List.set_cons_succ])
        refine wpAnyH_ready (rs := [6]) (by kernel_rfl) (by simp) ?_
        refine AllReadyH.cons (o := { dst := some 24, op := Go.Op.call { callee := Go.Callee.value (Go.Operand.func 74), args := #[Go.Operand.tmp 22, Go.Operand.tmp 23], argTypes := #[65, 33] }, type := 33, pos := "chain.go:42", after := #[{ on := 4, ground := Go.Ground.data }, { on := 5, ground := Go.Ground.data }], guard := none }) rfl (fun K hK => ?_) AllReadyH.nil
        go_simp
        (refine (HSM.out _ (HMB.out _ (HBW.out _ hS_0))).mono ?_; rintro e v_0s ⟨o1, c1, rfl, hB1, hc1, ho1, hb1⟩; have hS_0s := hS_0.trans (Own.of_below hb1); have hZ_0s := Blk.below hZ_0 hb1 (Blk.lt hZ_0); have hA_0s := owns_later hA_0 hb1; clear hb1 hS_0 hZ_0 hA_0; skip)
        (try go_wp2_with fail)
        refine hK.out _ _ ?_ (fun hHeld => ?_)
        · (try dsimp only)
          first | assumption
        clear hK K
        (try simp only [Act.put, List.setIfInBounds_toArray, List.set_cons_zero, List.set_cons_succ])
        refine wpAnyH_ready (rs := [7]) (by kernel_rfl) (by simp) ?_
        refine AllReadyH.cons (o := { dst := some 25, op := Go.Op.call { callee := Go.Callee.value (Go.Operand.func 40), args := #[Go.Operand.tmp 21, Go.Operand.tmp 24], argTypes := #[33, 33] }, type := 63, pos := "chain.go:42", after := #[{ on := 3, ground := Go.Ground.data }, { on := 6, ground := Go.Ground.data }, { on := 6, ground := Go.Ground.chain }], guard := none }) rfl (fun K hK => ?_) AllReadyH.nil
        go_simp
        (refine (HMC.out _ _ _ (HKB.out _ (HBW.out _ hS_0s)) (HGV.out _ (HBW.out _ hS_0s)) hB1 hc1).mono ?_; rintro e v_0sm ⟨rfl, hb2⟩; have hS_0sm := hS_0s.trans (Own.of_below hb2); have hZ_0sm := Blk.below hZ_0s hb2 (Blk.lt hZ_0s); have hA_0sm := owns_later hA_0s hb2; clear hb2 hS_0s hZ_0s hA_0s hB1 hc1; skip)
        (try go_wp2_with fail)
        refine hK.out _ _ ?_ (fun hHeld => ?_)
        · (try dsimp only)
          first | assumption
        clear hK K
        (try simp only [Act.put, List.setIfInBounds_toArray, List.set_cons_zero, List.set_cons_succ])
        refine wpAnyH_take (i := 8) (oi := { dst := some 26, op := Go.Op.build 65 #[(0, Go.Operand.tmp 20), (1, Go.Operand.tmp 25)], type := 65, pos := "chain.go:42", after := #[{ on := 2, ground := Go.Ground.data }, { on := 7, ground := Go.Ground.data }], guard := none }) (v := ?_) rfl (by kernel_rfl) (by kernel_rfl) (by kernel_rfl) (fun _ _ _ h => h) (Or.inl ⟨by rfl, ?_⟩) (by assumption) ?_
        rotate_left
        · intro wS hSw
          refine exec_buildM (C := CH) (parts := #[(0, .tmp 20), (1, .tmp 25)]) (ps := #[(0, .int .u64 (j : Int)), (1, .agg CN)]) ?_ ?_ HBD.out <;> first | rfl | (simp; done) | (simp; rfl) | (simp; exact ⟨rfl, rfl⟩)
        (try simp only [Act.put, List.setIfInBounds_toArray, List.set_cons_zero, List.set_cons_succ])
        refine wpAnyH_ready (rs := [9]) (by kernel_rfl) (by simp) ?_
        refine AllReadyH.cons (o := { dst := none, op := Go.Op.store 65 (Go.Operand.tmp 5) (Go.Operand.tmp 26), type := 0, pos := "chain.go:42", after := #[{ on := 8, ground := Go.Ground.data }, { on := 7, ground := Go.Ground.chain }, { on := 0, ground := Go.Ground.phase }, { on := 1, ground := Go.Ground.phase }, { on := 2, ground := Go.Ground.phase }, { on := 3, ground := Go.Ground.phase }, { on := 4, ground := Go.Ground.phase }, { on := 5, ground := Go.Ground.phase }, { on := 6, ground := Go.Ground.phase }, { on := 7, ground := Go.Ground.phase }, { on := 8, ground := Go.Ground.phase }], guard := none }) rfl (fun K hK => ?_) AllReadyH.nil
        (refine step_storeM (by kernel_rfl) 65 (.tmp 5) (.tmp 26) rfl w.heap.size 0 CH rfl rfl (Blk.thereAll hZ_0sm _ (Nat.le_of_eq HIS.out)) HIH.out HIO.out ?_; obtain ⟨v_3, hv3⟩ : ∃ q, v_0sm.setCells w.heap.size 0 CH.toList = q := ⟨_, rfl⟩; rw [hv3]; have hS_3 : Own w.heap.size wr v_3 := (by rw [← hv3]; exact hS_0sm.trans (Own.setCells _ 0 _)); have hF : Blk v_3 w.heap.size CH 65 := (by rw [← hv3]; exact Blk.whole hZ_0sm HIS.out); have hA_3 := owns_own hA_0sm (Own.setCells (b := w.heap.size) CH.toList 0 v_0sm) (Nat.lt_succ_self _); rw [hv3] at hA_3; clear hv3 hZ_0sm hS_0sm hA_0sm; skip)
        refine hK.out _ _ ?_ (fun hHeld => ?_)
        · (try dsimp only)
          first | assumption
        clear hK K
        (try simp only [Act.put, List.setIfInBounds_toArray, List.set_cons_zero, List.set_cons_succ])
        refine wpAnyH_done (by kernel_rfl) ?_ _
        have H3 : Hid (Own w.heap.size wr v_3 ∧ Blk v_3 w.heap.size CH 65) := Lib.hid ⟨hS_3, hF⟩
        have HA3 := Lib.hid hA_3
        have HI1 : Hid (IntKind.i64.wrap ((i : Int) + 1) = (j : Int)) := Lib.hid (by rw [IntWalk.i64_in _ (by have := HJ.out; have := HNM.out.2.2.1; omega)]; have := HJ.out; omega)
        clear hS_3 hF hA_3
        obtain ⟨wn, hwn⟩ : ∃ x, v_3.alloc (.cells CH 65) = x := ⟨_, rfl⟩
        have hbn : Below v_3.heap.size v_3 wn := by rw [← hwn]; exact (Below.refl _ _).alloc (Nat.le_refl _) _
        have HWN : Hid (wn.ownsRow (w.heap.size + 1) 65 33 (.slice (some ⟨g, 0, none⟩) (i + 1) c6) (i + 1) (rws (i + 1) fun j => hdL j (hs n K L G j)) ∧ Below w.heap.size w wn ∧ Blk wn w.heap.size CH 65 ∧ w.heap.size + 1 ≤ wn.heap.size ∧ (∀ j u, (hdL j N : List Value)[j]? = some u → True)) := Lib.hid ⟨owns_later HA3.out hbn, (HBW.out _ H3.out.1).trans (hbn.mono (HBW.out _ H3.out.1).size), Blk.below H3.out.2 hbn (Blk.lt H3.out.2), Nat.le_trans (Blk.lt H3.out.2) hbn.size, fun _ _ _ => trivial⟩
        have HNW : Hid (∀ k u, (hdL j N)[k]? = some u → wn.cell? ((⟨v_3.heap.size, 0, none⟩ : Addr).add k) = some u) := Lib.hid fun k u hu => by
          have := news_lit (w := v_3) (l := hdL j N) (t := 65) k u hu
          rw [HCH.out, hwn] at this; exact this
        clear hbn
        obtain ⟨i0, hi0, hz0, hz1, hz2⟩ : ∃ i0, Tryd.prog.info? 65 = some i0 ∧ (i0.zero = some (.agg zeroH)) ∧ i0.size = 33 ∧ i0.bytes = 40 := by
          have h : (Tryd.prog.info? 65).map (fun i => (i.zero, i.size, i.bytes)) = some (some (.agg zeroH), 33, 40) := by kernel_rfl
          cases e : Tryd.prog.info? 65 with
          | none => rw [e] at h; cases h
          | some i => rw [e] at h; simp only [Option.map_some, Option.some.injEq, Prod.mk.injEq] at h; exact ⟨i, rfl, h.1, h.2.1, h.2.2⟩
        have HI0 : Hid (Tryd.prog.info? 65 = some i0 ∧ (i0.zero = some (.agg zeroH)) ∧ i0.size = 33 ∧ i0.bytes = 40) := Lib.hid ⟨hi0, hz0, hz1, hz2⟩
        clear hi0 hz0 hz1 hz2
        go_wp2_with (first
          | (refine wpList_load_row rfl 65 (.tmp 5) rfl w.heap.size rfl 65 CH (0, 0) _ H3.out.2 Tryd.underlying65 rfl HIH.out ?_)
          | (refine wpList_bs rfl (.tmp 28) rfl CH rfl HBS.out ?_; rw [hwn])
          | (refine wpList_append_own_at _ rfl (.tmp 27) (.tmp 29) 129 rfl (w.heap.size + 1) 65 i0 (.agg zeroH) 33 40 Tryd.underlying129 HI0.out.1 HI0.out.2.1 HI0.out.2.2.1 HI0.out.2.2.2 zeroH_size (by decide) (.slice (some ⟨g, 0, none⟩) (i + 1) c6) (i + 1) _ rfl HWN.out.1 ⟨v_3.heap.size, 0, none⟩ 1 1 (hdL j N) rfl (hdL_len _ _) HNW.out (hdL_one _ _) (by have := HJ.out; have := HNM.out.2.2.1; unfold maxLen; omega) (by have := HJ.out; have := HNM.out.2.2.1; omega) HWN.out.2.2.2.1 ?_; intro v' wq hown' hgr hnl hob))
        go_roundw
        case rel =>
          obtain ⟨g', c', rfl, h9⟩ := HZ.next HJ.out.2.1 HHN.out (by rw [HCH.out]; exact HWN.out.2.2.1) HWN.out.1 HWN.out.2.1 hown' hgr
          exact ⟨j, g', c', by have := HJ.out; omega, by rw [show ((i : Int) + 1) = (j : Int) by have := HJ.out; omega], rfl, h9⟩
        case measure => have := HJ.out; simp [intOf] <;> omega
      refine AllReadyH.cons (o := { dst := some 22, op := Go.Op.load 65 (Go.Operand.tmp 5), type := 65, pos := "chain.go:42", after := #[], guard := none }) rfl (fun K hK => ?_) AllReadyH.nil
      (refine step_valueG (v := .agg C) (by kernel_rfl) (exec_loadB (x := .tmp 5) (g := w.heap.size) (t := 65) (by rfl) (by rfl) hZ_0 Tryd.underlying65 rfl HIC.out) ?_)
      refine hK.out _ _ ?_ (fun hHeld => ?_)
      · (try dsimp only)
        first | assumption
      clear hK K
      (try simp only [Act.put, List.setIfInBounds_toArray, List.set_cons_zero, List.set_cons_succ])
      refine wpAnyH_ready (rs := [1, 6]) (by kernel_rfl) (by simp) ?_
      refine AllReadyH.cons (o := { dst := some 19, op := Go.Op.load 62 (Go.Operand.tmp 18), type := 62, pos := "chain.go:42", after := #[{ on := 0, ground := Go.Ground.data }], guard := none }) rfl (fun K hK => ?_) ?_
      · skip
        (refine step_valueG (v := .int .u64 (i : Int)) (by kernel_rfl) (exec_loadC (x := .tmp 18) (b := w.heap.size) (f := 0) (by rfl) (by rfl) (load_u64 (HC0.out _ hZ_0))) ?_)
        refine hK.out _ _ ?_ (fun hHeld => ?_)
        · (try dsimp only)
          first | assumption
        clear hK K
        (try simp only [Act.put, List.setIfInBounds_toArray, List.set_cons_zero, List.set_cons_succ])
        refine wpAnyH_take (i := 2) (oi := { dst := some 20, op := Go.Op.binOp Go.BinOp.add 62 (Go.Operand.tmp 19) (Go.Operand.const (Go.Value.int Go.IntKind.u64 1)) 62, type := 62, pos := "chain.go:42", after := #[{ on := 1, ground := Go.Ground.data }], guard := none }) (v := ?_) rfl (by kernel_rfl) (by kernel_rfl) (by kernel_rfl) (fun _ _ _ h => h) (Or.inl ⟨by rfl, ?_⟩) (by assumption) ?_
        rotate_left
        · intro wS hSw
          (try dsimp only at hSw)
          go_simp
          (try with_reducible rfl)
        (try simp only [Act.put, List.setIfInBounds_toArray, List.set_cons_zero, List.set_cons_succ])
        refine wpAnyH_ready (rs := [6]) (by kernel_rfl) (by simp) ?_
        refine AllReadyH.cons (o := { dst := some 24, op := Go.Op.call { callee := Go.Callee.value (Go.Operand.func 74), args := #[Go.Operand.tmp 22, Go.Operand.tmp 23], argTypes := #[65, 33] }, type := 33, pos := "chain.go:42", after := #[{ on := 4, ground := Go.Ground.data }, { on := 5, ground := Go.Ground.data }], guard := none }) rfl (fun K hK => ?_) AllReadyH.nil
        go_simp
        (refine (HSM.out _ (HMB.out _ (HBW.out _ hS_0))).mono ?_; rintro e v_0s ⟨o1, c1, rfl, hB1, hc1, ho1, hb1⟩; have hS_0s := hS_0.trans (Own.of_below hb1); have hZ_0s := Blk.below hZ_0 hb1 (Blk.lt hZ_0); have hA_0s := owns_later hA_0 hb1; clear hb1 hS_0 hZ_0 hA_0; skip)
        (try go_wp2_with fail)
        refine hK.out _ _ ?_ (fun hHeld => ?_)
        · (try dsimp only)
          first | assumption
        clear hK K
        (try simp only [Act.put, List.setIfInBounds_toArray, List.set_cons_zero, List.set_cons_succ])
        refine wpAnyH_ready (rs := [7]) (by kernel_rfl) (by simp) ?_
        refine AllReadyH.cons (o := { dst := some 25, op := Go.Op.call { callee := Go.Callee.value (Go.Operand.func 40), args := #[Go.Operand.tmp 21, Go.Operand.tmp 24], argTypes := #[33, 33] }, type := 63, pos := "chain.go:42", after := #[{ on := 3, ground := Go.Ground.data }, { on := 6, ground := Go.Ground.data }, { on := 6, ground := Go.Ground.chain }], guard := none }) rfl (fun K hK => ?_) AllReadyH.nil
        go_simp
        (refine (HMC.out _ _ _ (HKB.out _ (HBW.out _ hS_0s)) (HGV.out _ (HBW.out _ hS_0s)) hB1 hc1).mono ?_; rintro e v_0sm ⟨rfl, hb2⟩; have hS_0sm := hS_0s.trans (Own.of_below hb2); have hZ_0sm := Blk.below hZ_0s hb2 (Blk.lt hZ_0s); have hA_0sm := owns_later hA_0s hb2; clear hb2 hS_0s hZ_0s hA_0s hB1 hc1; skip)
        (try go_wp2_with fail)
        refine hK.out _ _ ?_ (fun hHeld => ?_)
        · (try dsimp only)
          first | assumption
        clear hK K
        (try simp only [Act.put, List.setIfInBounds_toArray, List.set_cons_zero, List.set_cons_succ])
        refine wpAnyH_take (i := 8) (oi := { dst := some 26, op := Go.Op.build 65 #[(0, Go.Operand.tmp 20), (1, Go.Operand.tmp 25)], type := 65, pos := "chain.go:42", after := #[{ on := 2, ground := Go.Ground.data }, { on := 7, ground := Go.Ground.data }], guard := none }) (v := ?_) rfl (by kernel_rfl) (by kernel_rfl) (by kernel_rfl) (fun _ _ _ h => h) (Or.inl ⟨by rfl, ?_⟩) (by assumption) ?_
        rotate_left
        · intro wS hSw
          refine exec_buildM (C := CH) (parts := #[(0, .tmp 20), (1, .tmp 25)]) (ps := #[(0, .int .u64 (j : Int)), (1, .agg CN)]) ?_ ?_ HBD.out <;> first | rfl | (simp; done) | (simp; rfl) | (simp; exact ⟨rfl, rfl⟩)
        (try simp only [Act.put, List.setIfInBounds_toArray, List.set_cons_zero, List.set_cons_succ])
        refine wpAnyH_ready (rs := [9]) (by kernel_rfl) (by simp) ?_
        refine AllReadyH.cons (o := { dst := none, op := Go.Op.store 65 (Go.Operand.tmp 5) (Go.Operand.tmp 26), type := 0, pos := "chain.go:42", after := #[{ on := 8, ground := Go.Ground.data }, { on := 7, ground := Go.Ground.chain }, { on := 0, ground := Go.Ground.phase }, { on := 1, ground := Go.Ground.phase }, { on := 2, ground := Go.Ground.phase }, { on := 3, ground := Go.Ground.phase }, { on := 4, ground := Go.Ground.phase }, { on := 5, ground := Go.Ground.phase }, { on := 6, ground := Go.Ground.phase }, { on := 7, ground := Go.Ground.phase }, { on := 8, ground := Go.Ground.phase }], guard := none }) rfl (fun K hK => ?_) AllReadyH.nil
        (refine step_storeM (by kernel_rfl) 65 (.tmp 5) (.tmp 26) rfl w.heap.size 0 CH rfl rfl (Blk.thereAll hZ_0sm _ (Nat.le_of_eq HIS.out)) HIH.out HIO.out ?_; obtain ⟨v_3, hv3⟩ : ∃ q, v_0sm.setCells w.heap.size 0 CH.toList = q := ⟨_, rfl⟩; rw [hv3]; have hS_3 : Own w.heap.size wr v_3 := (by rw [← hv3]; exact hS_0sm.trans (Own.setCells _ 0 _)); have hF : Blk v_3 w.heap.size CH 65 := (by rw [← hv3]; exact Blk.whole hZ_0sm HIS.out); have hA_3 := owns_own hA_0sm (Own.setCells (b := w.heap.size) CH.toList 0 v_0sm) (Nat.lt_succ_self _); rw [hv3] at hA_3; clear hv3 hZ_0sm hS_0sm hA_0sm; skip)
        refine hK.out _ _ ?_ (fun hHeld => ?_)
        · (try dsimp only)
          first | assumption
        clear hK K
        (try simp only [Act.put, List.setIfInBounds_toArray, List.set_cons_zero, List.set_cons_succ])
        refine wpAnyH_done (by kernel_rfl) ?_ _
        have H3 : Hid (Own w.heap.size wr v_3 ∧ Blk v_3 w.heap.size CH 65) := Lib.hid ⟨hS_3, hF⟩
        have HA3 := Lib.hid hA_3
        have HI1 : Hid (IntKind.i64.wrap ((i : Int) + 1) = (j : Int)) := Lib.hid (by rw [IntWalk.i64_in _ (by have := HJ.out; have := HNM.out.2.2.1; omega)]; have := HJ.out; omega)
        clear hS_3 hF hA_3
        obtain ⟨wn, hwn⟩ : ∃ x, v_3.alloc (.cells CH 65) = x := ⟨_, rfl⟩
        have hbn : Below v_3.heap.size v_3 wn := by rw [← hwn]; exact (Below.refl _ _).alloc (Nat.le_refl _) _
        have HWN : Hid (wn.ownsRow (w.heap.size + 1) 65 33 (.slice (some ⟨g, 0, none⟩) (i + 1) c6) (i + 1) (rws (i + 1) fun j => hdL j (hs n K L G j)) ∧ Below w.heap.size w wn ∧ Blk wn w.heap.size CH 65 ∧ w.heap.size + 1 ≤ wn.heap.size ∧ (∀ j u, (hdL j N : List Value)[j]? = some u → True)) := Lib.hid ⟨owns_later HA3.out hbn, (HBW.out _ H3.out.1).trans (hbn.mono (HBW.out _ H3.out.1).size), Blk.below H3.out.2 hbn (Blk.lt H3.out.2), Nat.le_trans (Blk.lt H3.out.2) hbn.size, fun _ _ _ => trivial⟩
        have HNW : Hid (∀ k u, (hdL j N)[k]? = some u → wn.cell? ((⟨v_3.heap.size, 0, none⟩ : Addr).add k) = some u) := Lib.hid fun k u hu => by
          have := news_lit (w := v_3) (l := hdL j N) (t := 65) k u hu
          rw [HCH.out, hwn] at this; exact this
        clear hbn
        obtain ⟨i0, hi0, hz0, hz1, hz2⟩ : ∃ i0, Tryd.prog.info? 65 = some i0 ∧ (i0.zero = some (.agg zeroH)) ∧ i0.size = 33 ∧ i0.bytes = 40 := by
          have h : (Tryd.prog.info? 65).map (fun i => (i.zero, i.size, i.bytes)) = some (some (.agg zeroH), 33, 40) := by kernel_rfl
          cases e : Tryd.prog.info? 65 with
          | none => rw [e] at h; cases h
          | some i => rw [e] at h; simp only [Option.map_some, Option.some.injEq, Prod.mk.injEq] at h; exact ⟨i, rfl, h.1, h.2.1, h.2.2⟩
        have HI0 : Hid (Tryd.prog.info? 65 = some i0 ∧ (i0.zero = some (.agg zeroH)) ∧ i0.size = 33 ∧ i0.bytes = 40) := Lib.hid ⟨hi0, hz0, hz1, hz2⟩
        clear hi0 hz0 hz1 hz2
        go_wp2_with (first
          | (refine wpList_load_row rfl 65 (.tmp 5) rfl w.heap.size rfl 65 CH (0, 0) _ H3.out.2 Tryd.underlying65 rfl HIH.out ?_)
          | (refine wpList_bs rfl (.tmp 28) rfl CH rfl HBS.out ?_; rw [hwn])
          | (refine wpList_append_own_at _ rfl (.tmp 27) (.tmp 29) 129 rfl (w.heap.size + 1) 65 i0 (.agg zeroH) 33 40 Tryd.underlying129 HI0.out.1 HI0.out.2.1 HI0.out.2.2.1 HI0.out.2.2.2 zeroH_size (by decide) (.slice (some ⟨g, 0, none⟩) (i + 1) c6) (i + 1) _ rfl HWN.out.1 ⟨v_3.heap.size, 0, none⟩ 1 1 (hdL j N) rfl (hdL_len _ _) HNW.out (hdL_one _ _) (by have := HJ.out; have := HNM.out.2.2.1; unfold maxLen; omega) (by have := HJ.out; have := HNM.out.2.2.1; omega) HWN.out.2.2.2.1 ?_; intro v' wq hown' hgr hnl hob))
        go_roundw
        case rel =>
          obtain ⟨g', c', rfl, h9⟩ := HZ.next HJ.out.2.1 HHN.out (by rw [HCH.out]; exact HWN.out.2.2.1) HWN.out.1 HWN.out.2.1 hown' hgr
          exact ⟨j, g', c', by have := HJ.out; omega, by rw [show ((i : Int) + 1) = (j : Int) by have := HJ.out; omega], rfl, h9⟩
        case measure => have := HJ.out; simp [intOf] <;> omega
      refine AllReadyH.cons (o := { dst := some 24, op := Go.Op.call { callee := Go.Callee.value (Go.Operand.func 74), args := #[Go.Operand.tmp 22, Go.Operand.tmp 23], argTypes := #[65, 33] }, type := 33, pos := "chain.go:42", after := #[{ on := 4, ground := Go.Ground.data }, { on := 5, ground := Go.Ground.data }], guard := none }) rfl (fun K hK => ?_) AllReadyH.nil
      go_simp
      (refine (HSM.out _ (HMB.out _ (HBW.out _ hS_0))).mono ?_; rintro e v_0s ⟨o1, c1, rfl, hB1, hc1, ho1, hb1⟩; have hS_0s := hS_0.trans (Own.of_below hb1); have hZ_0s := Blk.below hZ_0 hb1 (Blk.lt hZ_0); have hA_0s := owns_later hA_0 hb1; clear hb1 hS_0 hZ_0 hA_0; skip)
      (try go_wp2_with fail)
      refine hK.out _ _ ?_ (fun hHeld => ?_)
      · (try dsimp only)
        first | assumption
      clear hK K
      (try simp only [Act.put, List.setIfInBounds_toArray, List.set_cons_zero, List.set_cons_succ])
      refine wpAnyH_ready (rs := [1, 7]) (by kernel_rfl) (by simp) ?_
      refine AllReadyH.cons (o := { dst := some 19, op := Go.Op.load 62 (Go.Operand.tmp 18), type := 62, pos := "chain.go:42", after := #[{ on := 0, ground := Go.Ground.data }], guard := none }) rfl (fun K hK => ?_) ?_
      · skip
        (refine step_valueG (v := .int .u64 (i : Int)) (by kernel_rfl) (exec_loadC (x := .tmp 18) (b := w.heap.size) (f := 0) (by rfl) (by rfl) (load_u64 (HC0.out _ hZ_0s))) ?_)
        refine hK.out _ _ ?_ (fun hHeld => ?_)
        · (try dsimp only)
          first | assumption
        clear hK K
        (try simp only [Act.put, List.setIfInBounds_toArray, List.set_cons_zero, List.set_cons_succ])
        refine wpAnyH_take (i := 2) (oi := { dst := some 20, op := Go.Op.binOp Go.BinOp.add 62 (Go.Operand.tmp 19) (Go.Operand.const (Go.Value.int Go.IntKind.u64 1)) 62, type := 62, pos := "chain.go:42", after := #[{ on := 1, ground := Go.Ground.data }], guard := none }) (v := ?_) rfl (by kernel_rfl) (by kernel_rfl) (by kernel_rfl) (fun _ _ _ h => h) (Or.inl ⟨by rfl, ?_⟩) (by assumption) ?_
        rotate_left
        · intro wS hSw
          (try dsimp only at hSw)
          go_simp
          (try with_reducible rfl)
        (try simp only [Act.put, List.setIfInBounds_toArray, List.set_cons_zero, List.set_cons_succ])
        refine wpAnyH_ready (rs := [7]) (by kernel_rfl) (by simp) ?_
        refine AllReadyH.cons (o := { dst := some 25, op := Go.Op.call { callee := Go.Callee.value (Go.Operand.func 40), args := #[Go.Operand.tmp 21, Go.Operand.tmp 24], argTypes := #[33, 33] }, type := 63, pos := "chain.go:42", after := #[{ on := 3, ground := Go.Ground.data }, { on := 6, ground := Go.Ground.data }, { on := 6, ground := Go.Ground.chain }], guard := none }) rfl (fun K hK => ?_) AllReadyH.nil
        go_simp
        (refine (HMC.out _ _ _ (HKB.out _ (HBW.out _ hS_0s)) (HGV.out _ (HBW.out _ hS_0s)) hB1 hc1).mono ?_; rintro e v_0sm ⟨rfl, hb2⟩; have hS_0sm := hS_0s.trans (Own.of_below hb2); have hZ_0sm := Blk.below hZ_0s hb2 (Blk.lt hZ_0s); have hA_0sm := owns_later hA_0s hb2; clear hb2 hS_0s hZ_0s hA_0s hB1 hc1; skip)
        (try go_wp2_with fail)
        refine hK.out _ _ ?_ (fun hHeld => ?_)
        · (try dsimp only)
          first | assumption
        clear hK K
        (try simp only [Act.put, List.setIfInBounds_toArray, List.set_cons_zero, List.set_cons_succ])
        refine wpAnyH_take (i := 8) (oi := { dst := some 26, op := Go.Op.build 65 #[(0, Go.Operand.tmp 20), (1, Go.Operand.tmp 25)], type := 65, pos := "chain.go:42", after := #[{ on := 2, ground := Go.Ground.data }, { on := 7, ground := Go.Ground.data }], guard := none }) (v := ?_) rfl (by kernel_rfl) (by kernel_rfl) (by kernel_rfl) (fun _ _ _ h => h) (Or.inl ⟨by rfl, ?_⟩) (by assumption) ?_
        rotate_left
        · intro wS hSw
          refine exec_buildM (C := CH) (parts := #[(0, .tmp 20), (1, .tmp 25)]) (ps := #[(0, .int .u64 (j : Int)), (1, .agg CN)]) ?_ ?_ HBD.out <;> first | rfl | (simp; done) | (simp; rfl) | (simp; exact ⟨rfl, rfl⟩)
        (try simp only [Act.put, List.setIfInBounds_toArray, List.set_cons_zero, List.set_cons_succ])
        refine wpAnyH_ready (rs := [9]) (by kernel_rfl) (by simp) ?_
        refine AllReadyH.cons (o := { dst := none, op := Go.Op.store 65 (Go.Operand.tmp 5) (Go.Operand.tmp 26), type := 0, pos := "chain.go:42", after := #[{ on := 8, ground := Go.Ground.data }, { on := 7, ground := Go.Ground.chain }, { on := 0, ground := Go.Ground.phase }, { on := 1, ground := Go.Ground.phase }, { on := 2, ground := Go.Ground.phase }, { on := 3, ground := Go.Ground.phase }, { on := 4, ground := Go.Ground.phase }, { on := 5, ground := Go.Ground.phase }, { on := 6, ground := Go.Ground.phase }, { on := 7, ground := Go.Ground.phase }, { on := 8, ground := Go.Ground.phase }], guard := none }) rfl (fun K hK => ?_) AllReadyH.nil
        (refine step_storeM (by kernel_rfl) 65 (.tmp 5) (.tmp 26) rfl w.heap.size 0 CH rfl rfl (Blk.thereAll hZ_0sm _ (Nat.le_of_eq HIS.out)) HIH.out HIO.out ?_; obtain ⟨v_3, hv3⟩ : ∃ q, v_0sm.setCells w.heap.size 0 CH.toList = q := ⟨_, rfl⟩; rw [hv3]; have hS_3 : Own w.heap.size wr v_3 := (by rw [← hv3]; exact hS_0sm.trans (Own.setCells _ 0 _)); have hF : Blk v_3 w.heap.size CH 65 := (by rw [← hv3]; exact Blk.whole hZ_0sm HIS.out); have hA_3 := owns_own hA_0sm (Own.setCells (b := w.heap.size) CH.toList 0 v_0sm) (Nat.lt_succ_self _); rw [hv3] at hA_3; clear hv3 hZ_0sm hS_0sm hA_0sm; skip)
        refine hK.out _ _ ?_ (fun hHeld => ?_)
        · (try dsimp only)
          first | assumption
        clear hK K
        (try simp only [Act.put, List.setIfInBounds_toArray, List.set_cons_zero, List.set_cons_succ])
        refine wpAnyH_done (by kernel_rfl) ?_ _
        have H3 : Hid (Own w.heap.size wr v_3 ∧ Blk v_3 w.heap.size CH 65) := Lib.hid ⟨hS_3, hF⟩
        have HA3 := Lib.hid hA_3
        have HI1 : Hid (IntKind.i64.wrap ((i : Int) + 1) = (j : Int)) := Lib.hid (by rw [IntWalk.i64_in _ (by have := HJ.out; have := HNM.out.2.2.1; omega)]; have := HJ.out; omega)
        clear hS_3 hF hA_3
        obtain ⟨wn, hwn⟩ : ∃ x, v_3.alloc (.cells CH 65) = x := ⟨_, rfl⟩
        have hbn : Below v_3.heap.size v_3 wn := by rw [← hwn]; exact (Below.refl _ _).alloc (Nat.le_refl _) _
        have HWN : Hid (wn.ownsRow (w.heap.size + 1) 65 33 (.slice (some ⟨g, 0, none⟩) (i + 1) c6) (i + 1) (rws (i + 1) fun j => hdL j (hs n K L G j)) ∧ Below w.heap.size w wn ∧ Blk wn w.heap.size CH 65 ∧ w.heap.size + 1 ≤ wn.heap.size ∧ (∀ j u, (hdL j N : List Value)[j]? = some u → True)) := Lib.hid ⟨owns_later HA3.out hbn, (HBW.out _ H3.out.1).trans (hbn.mono (HBW.out _ H3.out.1).size), Blk.below H3.out.2 hbn (Blk.lt H3.out.2), Nat.le_trans (Blk.lt H3.out.2) hbn.size, fun _ _ _ => trivial⟩
        have HNW : Hid (∀ k u, (hdL j N)[k]? = some u → wn.cell? ((⟨v_3.heap.size, 0, none⟩ : Addr).add k) = some u) := Lib.hid fun k u hu => by
          have := news_lit (w := v_3) (l := hdL j N) (t := 65) k u hu
          rw [HCH.out, hwn] at this; exact this
        clear hbn
        obtain ⟨i0, hi0, hz0, hz1, hz2⟩ : ∃ i0, Tryd.prog.info? 65 = some i0 ∧ (i0.zero = some (.agg zeroH)) ∧ i0.size = 33 ∧ i0.bytes = 40 := by
          have h : (Tryd.prog.info? 65).map (fun i => (i.zero, i.size, i.bytes)) = some (some (.agg zeroH), 33, 40) := by kernel_rfl
          cases e : Tryd.prog.info? 65 with
          | none => rw [e] at h; cases h
          | some i => rw [e] at h; simp only [Option.map_some, Option.some.injEq, Prod.mk.injEq] at h; exact ⟨i, rfl, h.1, h.2.1, h.2.2⟩
        have HI0 : Hid (Tryd.prog.info? 65 = some i0 ∧ (i0.zero = some (.agg zeroH)) ∧ i0.size = 33 ∧ i0.bytes = 40) := Lib.hid ⟨hi0, hz0, hz1, hz2⟩
        clear hi0 hz0 hz1 hz2
        go_wp2_with (first
          | (refine wpList_load_row rfl 65 (.tmp 5) rfl w.heap.size rfl 65 CH (0, 0) _ H3.out.2 Tryd.underlying65 rfl HIH.out ?_)
          | (refine wpList_bs rfl (.tmp 28) rfl CH rfl HBS.out ?_; rw [hwn])
          | (refine wpList_append_own_at _ rfl (.tmp 27) (.tmp 29) 129 rfl (w.heap.size + 1) 65 i0 (.agg zeroH) 33 40 Tryd.underlying129 HI0.out.1 HI0.out.2.1 HI0.out.2.2.1 HI0.out.2.2.2 zeroH_size (by decide) (.slice (some ⟨g, 0, none⟩) (i + 1) c6) (i + 1) _ rfl HWN.out.1 ⟨v_3.heap.size, 0, none⟩ 1 1 (hdL j N) rfl (hdL_len _ _) HNW.out (hdL_one _ _) (by have := HJ.out; have := HNM.out.2.2.1; unfold maxLen; omega) (by have := HJ.out; have := HNM.out.2.2.1; omega) HWN.out.2.2.2.1 ?_; intro v' wq hown' hgr hnl hob))
        go_roundw
        case rel =>
          obtain ⟨g', c', rfl, h9⟩ := HZ.next HJ.out.2.1 HHN.out (by rw [HCH.out]; exact HWN.out.2.2.1) HWN.out.1 HWN.out.2.1 hown' hgr
          exact ⟨j, g', c', by have := HJ.out; omega, by rw [show ((i : Int) + 1) = (j : Int) by have := HJ.out; omega], rfl, h9⟩
        case measure => have := HJ.out; simp [intOf] <;> omega
      refine AllReadyH.cons (o := { dst := some 25, op := Go.Op.call { callee := Go.Callee.value (Go.Operand.func 40), args := #[Go.Operand.tmp 21, Go.Operand.tmp 24], argTypes := #[33, 33] }, type := 63, pos := "chain.go:42", after := #[{ on := 3, ground := Go.Ground.data }, { on := 6, ground := Go.Ground.data }, { on := 6, ground := Go.Ground.chain }], guard := none }) rfl (fun K hK => ?_) AllReadyH.nil
      go_simp
      (refine (HMC.out _ _ _ (HKB.out _ (HBW.out _ hS_0s)) (HGV.out _ (HBW.out _ hS_0s)) hB1 hc1).mono ?_; rintro e v_0sm ⟨rfl, hb2⟩; have hS_0sm := hS_0s.trans (Own.of_below hb2); have hZ_0sm := Blk.below hZ_0s hb2 (Blk.lt hZ_0s); have hA_0sm := owns_later hA_0s hb2; clear hb2 hS_0s hZ_0s hA_0s hB1 hc1; skip)
      (try go_wp2_with fail)
      refine hK.out _ _ ?_ (fun hHeld => ?_)
      · (try dsimp only)
        first | assumption
      clear hK K
      (try simp only [Act.put, List.setIfInBounds_toArray, List.set_cons_zero, List.set_cons_succ])
      refine wpAnyH_ready (rs := [1]) (by kernel_rfl) (by simp) ?_
      refine AllReadyH.cons (o := { dst := some 19, op := Go.Op.load 62 (Go.Operand.tmp 18), type := 62, pos := "chain.go:42", after := #[{ on := 0, ground := Go.Ground.data }], guard := none }) rfl (fun K hK => ?_) AllReadyH.nil
      (refine step_valueG (v := .int .u64 (i : Int)) (by kernel_rfl) (exec_loadC (x := .tmp 18) (b := w.heap.size) (f := 0) (by rfl) (by rfl) (load_u64 (HC0.out _ hZ_0sm))) ?_)
      refine hK.out _ _ ?_ (fun hHeld => ?_)
      · (try dsimp only)
        first | assumption
      clear hK K
      (try simp only [Act.put, List.setIfInBounds_toArray, List.set_cons_zero, List.set_cons_succ])
      refine wpAnyH_take (i := 2) (oi := { dst := some 20, op := Go.Op.binOp Go.BinOp.add 62 (Go.Operand.tmp 19) (Go.Operand.const (Go.Value.int Go.IntKind.u64 1)) 62, type := 62, pos := "chain.go:42", after := #[{ on := 1, ground := Go.Ground.data }], guard := none }) (v := ?_) rfl (by kernel_rfl) (by kernel_rfl) (by kernel_rfl) (fun _ _ _ h => h) (Or.inl ⟨by rfl, ?_⟩) (by assumption) ?_
      rotate_left
      · intro wS hSw
        (try dsimp only at hSw)
        go_simp
        (try with_reducible rfl)
      (try simp only [Act.put, List.setIfInBounds_toArray, List.set_cons_zero, List.set_cons_succ])
      refine wpAnyH_take (i := 8) (oi := { dst := some 26, op := Go.Op.build 65 #[(0, Go.Operand.tmp 20), (1, Go.Operand.tmp 25)], type := 65, pos := "chain.go:42", after := #[{ on := 2, ground := Go.Ground.data }, { on := 7, ground := Go.Ground.data }], guard := none }) (v := ?_) rfl (by kernel_rfl) (by kernel_rfl) (by kernel_rfl) (fun _ _ _ h => h) (Or.inl ⟨by rfl, ?_⟩) (by assumption) ?_
      rotate_left
      · intro wS hSw
        refine exec_buildM (C := CH) (parts := #[(0, .tmp 20), (1, .tmp 25)]) (ps := #[(0, .int .u64 (j : Int)), (1, .agg CN)]) ?_ ?_ HBD.out <;> first | rfl | (simp; done) | (simp; rfl) | (simp; exact ⟨rfl, rfl⟩)
      (try simp only [Act.put, List.setIfInBounds_toArray, List.set_cons_zero, List.set_cons_succ])
      refine wpAnyH_ready (rs := [9]) (by kernel_rfl) (by simp) ?_
      refine AllReadyH.cons (o := { dst := none, op := Go.Op.store 65 (Go.Operand.tmp 5) (Go.Operand.tmp 26), type := 0, pos := "chain.go:42", after := #[{ on := 8, ground := Go.Ground.data }, { on := 7, ground := Go.Ground.chain }, { on := 0, ground := Go.Ground.phase }, { on := 1, ground := Go.Ground.phase }, { on := 2, ground := Go.Ground.phase }, { on := 3, ground := Go.Ground.phase }, { on := 4, ground := Go.Ground.phase }, { on := 5, ground := Go.Ground.phase }, { on := 6, ground := Go.Ground.phase }, { on := 7, ground := Go.Ground.phase }, { on := 8, ground := Go.Ground.phase }], guard := none }) rfl (fun K hK => ?_) AllReadyH.nil
      (refine step_storeM (by kernel_rfl) 65 (.tmp 5) (.tmp 26) rfl w.heap.size 0 CH rfl rfl (Blk.thereAll hZ_0sm _ (Nat.le_of_eq HIS.out)) HIH.out HIO.out ?_; obtain ⟨v_3, hv3⟩ : ∃ q, v_0sm.setCells w.heap.size 0 CH.toList = q := ⟨_, rfl⟩; rw [hv3]; have hS_3 : Own w.heap.size wr v_3 := (by rw [← hv3]; exact hS_0sm.trans (Own.setCells _ 0 _)); have hF : Blk v_3 w.heap.size CH 65 := (by rw [← hv3]; exact Blk.whole hZ_0sm HIS.out); have hA_3 := owns_own hA_0sm (Own.setCells (b := w.heap.size) CH.toList 0 v_0sm) (Nat.lt_succ_self _); rw [hv3] at hA_3; clear hv3 hZ_0sm hS_0sm hA_0sm; skip)
      refine hK.out _ _ ?_ (fun hHeld => ?_)
      · (try dsimp only)
        first | assumption
      clear hK K
      (try simp only [Act.put, List.setIfInBounds_toArray, List.set_cons_zero, List.set_cons_succ])
      refine wpAnyH_done (by kernel_rfl) ?_ _
      have H3 : Hid (Own w.heap.size wr v_3 ∧ Blk v_3 w.heap.size CH 65) := Lib.hid ⟨hS_3, hF⟩
      have HA3 := Lib.hid hA_3
      have HI1 : Hid (IntKind.i64.wrap ((i : Int) + 1) = (j : Int)) := Lib.hid (by rw [IntWalk.i64_in _ (by have := HJ.out; have := HNM.out.2.2.1; omega)]; have := HJ.out; omega)
      clear hS_3 hF hA_3
      obtain ⟨wn, hwn⟩ : ∃ x, v_3.alloc (.cells CH 65) = x := ⟨_, rfl⟩
      have hbn : Below v_3.heap.size v_3 wn := by rw [← hwn]; exact (Below.refl _ _).alloc (Nat.le_refl _) _
      have HWN : Hid (wn.ownsRow (w.heap.size + 1) 65 33 (.slice (some ⟨g, 0, none⟩) (i + 1) c6) (i + 1) (rws (i + 1) fun j => hdL j (hs n K L G j)) ∧ Below w.heap.size w wn ∧ Blk wn w.heap.size CH 65 ∧ w.heap.size + 1 ≤ wn.heap.size ∧ (∀ j u, (hdL j N : List Value)[j]? = some u → True)) := Lib.hid ⟨owns_later HA3.out hbn, (HBW.out _ H3.out.1).trans (hbn.mono (HBW.out _ H3.out.1).size), Blk.below H3.out.2 hbn (Blk.lt H3.out.2), Nat.le_trans (Blk.lt H3.out.2) hbn.size, fun _ _ _ => trivial⟩
      have HNW : Hid (∀ k u, (hdL j N)[k]? = some u → wn.cell? ((⟨v_3.heap.size, 0, none⟩ : Addr).add k) = some u) := Lib.hid fun k u hu => by
        have := news_lit (w := v_3) (l := hdL j N) (t := 65) k u hu
        rw [HCH.out, hwn] at this; exact this
      clear hbn
      obtain ⟨i0, hi0, hz0, hz1, hz2⟩ : ∃ i0, Tryd.prog.info? 65 = some i0 ∧ (i0.zero = some (.agg zeroH)) ∧ i0.size = 33 ∧ i0.bytes = 40 := by
        have h : (Tryd.prog.info? 65).map (fun i => (i.zero, i.size, i.bytes)) = some (some (.agg zeroH), 33, 40) := by kernel_rfl
        cases e : Tryd.prog.info? 65 with
        | none => rw [e] at h; cases h
        | some i => rw [e] at h; simp only [Option.map_some, Option.some.injEq, Prod.mk.injEq] at h; exact ⟨i, rfl, h.1, h.2.1, h.2.2⟩
      have HI0 : Hid (Tryd.prog.info? 65 = some i0 ∧ (i0.zero = some (.agg zeroH)) ∧ i0.size = 33 ∧ i0.bytes = 40) := Lib.hid ⟨hi0, hz0, hz1, hz2⟩
      clear hi0 hz0 hz1 hz2
      go_wp2_with (first
        | (refine wpList_load_row rfl 65 (.tmp 5) rfl w.heap.size rfl 65 CH (0, 0) _ H3.out.2 Tryd.underlying65 rfl HIH.out ?_)
        | (refine wpList_bs rfl (.tmp 28) rfl CH rfl HBS.out ?_; rw [hwn])
        | (refine wpList_append_own_at _ rfl (.tmp 27) (.tmp 29) 129 rfl (w.heap.size + 1) 65 i0 (.agg zeroH) 33 40 Tryd.underlying129 HI0.out.1 HI0.out.2.1 HI0.out.2.2.1 HI0.out.2.2.2 zeroH_size (by decide) (.slice (some ⟨g, 0, none⟩) (i + 1) c6) (i + 1) _ rfl HWN.out.1 ⟨v_3.heap.size, 0, none⟩ 1 1 (hdL j N) rfl (hdL_len _ _) HNW.out (hdL_one _ _) (by have := HJ.out; have := HNM.out.2.2.1; unfold maxLen; omega) (by have := HJ.out; have := HNM.out.2.2.1; omega) HWN.out.2.2.2.1 ?_; intro v' wq hown' hgr hnl hob))
      go_roundw
      case rel =>
        obtain ⟨g', c', rfl, h9⟩ := HZ.next HJ.out.2.1 HHN.out (by rw [HCH.out]; exact HWN.out.2.2.1) HWN.out.1 HWN.out.2.1 hown' hgr
        exact ⟨j, g', c', by have := HJ.out; omega, by rw [show ((i : Int) + 1) = (j : Int) by have := HJ.out; omega], rfl, h9⟩
      case measure => have := HJ.out; simp [intOf] <;> omega
    · obtain rfl : i = q := by omega
      have i1 : ¬ (i : Int) < (i : Int) := by omega
      obtain ⟨b, c, he, hc, hR⟩ := HX.out.row
      cases he
      have HR2 := Lib.hid hR
      have HC2 := Lib.hid hc
      clear hlt hi hR hc
      go_wp2_with fail
      go_ret
      exact ⟨_, _, rfl, HC2.out, HR2.out, HX.out.o⟩
end Go.Proofs.YtmabhjifldafaaaDoor
