/- The sum ahead with an entry behind it; the head behind an entry more. -/
import Derived.Test.YtmabhjifldafaaaDoorCh0
import Derived.Test.YtmabhjifldafaaaDoorRm1
namespace Go.Proofs.YtmabhjifldafaaaDoor
set_option linter.unusedVariables false
set_option linter.unusedSimpArgs false
open Go.RowKit

theorem exec_loadB {o : Oper} {a : Act} {w : World} {ty t : TypeId} {x : Operand} {g : Nat} {C : Array Value} {d : TypeDesc} (ho : o.op = .load ty x) (hx : a.eval x = .pointer (some ⟨g, 0, none⟩)) (hB : Blk w g C t) (hu : Tryd.prog.underlying ty = some d) (hd : d.isRow = true) (hi : (Tryd.prog.info? ty).map (·.size) = some C.size) :
    (execOp a.eval o).run Tryd.prog w = .ok (.value (.agg C)) w := by
  have h := exec_loadM (cs := C.toList) (f := 0) ho hx (Blk.range (C := C.toList) (by simpa using hB)) hu hd (by simpa using hi)
  simpa using h
theorem Grow.base {w : World} {b b' n : Nat} {v : Value} {f : Nat → Nat} (h : Grow w b v n f) (hb : b' ≤ b) : Grow w b' v n f :=
  ⟨h.1, h.2.imp_right fun ⟨g, cap, cur, h1, h2, h3⟩ => ⟨g, cap, cur, h1, Nat.le_trans hb h2, h3⟩⟩
/-- A head's block, made and stored. -/
theorem laidHd (w : World) (Z C : Array Value) (T : TypeId) (hs : C.size = Z.size) : Blk ((w.alloc (.cells Z T)).setCells w.heap.size 0 C.toList) w.heap.size C T ∧ Below w.heap.size w ((w.alloc (.cells Z T)).setCells w.heap.size 0 C.toList) ∧ (w.alloc (.cells Z T)).there w.heap.size 0 C.size := by
  have h1 : Blk (w.alloc (.cells Z T)) w.heap.size Z T := Blk.new _ _ _
  have h2 : Below w.heap.size w (w.alloc (.cells Z T)) := (Below.refl _ _).alloc (Nat.le_refl _) _
  exact ⟨Blk.whole h1 hs, h2.trans ((Own.setCells _ 0 _).below (Nat.le_refl _) h2.size), Blk.thereAll h1 _ (Nat.le_of_eq hs)⟩
set_option maxRecDepth 100000 in
set_option maxHeartbeats 1000000 in
/-- slices.Clone of a row that is not nil: a row of our own. -/
theorem sclone_own (a : Addr) (len cap : Nat) (f : Nat → Nat) (w : World) (hB : Bytes w (some a) len f) (hl : len < 100000000000000) :
    Calls Tryd.prog 106 #[.slice (some a) len cap] w fun e w' => ∃ v, e = .returned v ∧ Grow w' w.heap.size v len f ∧ Below w.heap.size w w' := by
  have heq := Lib.run_eql_slice_nil (P := Tryd.prog) w 33 5 (some a) len cap 0 0 Tryd.underlying33
  have hE : Blk (w.alloc (.cells #[] 5)) w.heap.size #[] 5 := Blk.new _ _ _
  have HG := Lib.hid (Grow.empty hE (Nat.le_refl _) (fun _ => 0))
  have HB := Lib.hid (hB.alloc (.cells #[] 5))
  clear hE hB
  go_enter Tryd.func106, Tryd.ntmps106
  go_wp2_with (at_builtin; refine wpList_appA rfl (.tmp 5) (.tmp 6) rfl w.heap.size _ 0 len cap a (fun _ => 0) f _ rfl HG.out rfl HB.out (by omega) ?c1 ?_)
  case c1 => simp
  intro v' w' hG hb
  have hG2 := hG.congr (g := f) fun i hi => by unfold catF; rw [if_neg (Nat.not_lt_zero _), Nat.sub_zero]
  have hB' : Below w.heap.size w w' := ((Below.refl _ _).alloc (Nat.le_refl _) (.cells #[] 5)).trans hb
  have HG2 := Lib.hid hG2
  clear hG hG2 hb HG HB
  go_wp2_with fail
  go_ret
  exact ⟨_, rfl, HG2.out, hB'⟩
set_option maxRecDepth 100000 in
set_option maxHeartbeats 2000000 in
theorem summed_any (k : Nat) (S : Nat → Nat) (ob : Option Addr) (m cm : Nat) (G : Nat → Nat) (w : World) (hS : ∀ i, i < 32 → S i < 256) (hb : Bytes w ob m G) (hno : ob = none → m = 0) (hm : m < 800000000) :
    Calls Tryd.prog 74 #[.agg (hdL k S).toArray, .slice ob m cm] w fun e w' => ∃ o c, e = .returned (.slice o (32 + m) c) ∧ Bytes w' o (32 + m) (catF 32 S G) ∧ 32 + m ≤ c ∧ o ≠ none ∧ Below w.heap.size w w' := by
  obtain ⟨C, hC⟩ : ∃ C, (hdL k S).toArray = C := ⟨_, rfl⟩
  obtain ⟨wa, hwa⟩ : ∃ x, w.alloc (.cells C 65) = x := ⟨_, rfl⟩
  have HB0 : Hid (Bytes wa (some ⟨w.heap.size, 1, none⟩) 32 S ∧ Below w.heap.size w wa) := Lib.hid ⟨hd_bytes (T := 65) (n := k) (by rw [hC, ← hwa]; exact Blk.new _ _ _) hS, by rw [← hwa]; exact (Below.refl _ _).alloc (Nat.le_refl _) _⟩
  have HGB : Hid (∀ w', Below w.heap.size w w' → Bytes w' ob m G) := Lib.hid fun w' h => hb.later h
  have HNO := Lib.hid hno
  have HM := Lib.hid hm
  have HS := Lib.hid hS
  have HG8 : Hid (∀ i, i < m → G i < 256) := Lib.hid fun i hi => (hb i hi).1
  rw [hC]
  clear hC hS hb hno hm
  go_enter Tryd.func74, Tryd.ntmps74
  go_wp2_with fail
  refine (sclone_own ⟨w.heap.size, 1, none⟩ 32 32 S wa HB0.out.1 (by decide)).mono ?_
  rintro e w1 ⟨v, rfl, hG, hb1⟩
  have HO := Lib.hid (HB0.out.2.trans (hb1.mono HB0.out.2.size))
  have HGV := Lib.hid (Grow.base hG HB0.out.2.size)
  clear hG hb1 hwa
  go_wp2_with (first | (refine wpList_appO rfl (.tmp 7) (.tmp 8) rfl w.heap.size v 32 m cm ob S G w1 rfl HGV.out rfl HNO.out (HGB.out _ HO.out) (by have := HM.out; omega) HO.out.size ?_; intro v2 w2 hG2 hg2 hob2; have HB2 := Lib.hid (grow_bel HGV.out HO.out.size hg2); obtain ⟨o3, c3, hv3, hB3, hc3, hn3⟩ := hG2.bytesC (catF_b HS.out HG8.out); subst hv3; clear hG2 hg2 hob2))
  go_ret
  exact ⟨o3, c3, rfl, hB3, hc3, fun e => by have := hn3 e; omega, HO.out.trans HB2.out⟩
set_option maxRecDepth 100000 in
set_option maxHeartbeats 8000000 in
theorem next_any (oa : Option Addr) (n cn : Nat) (K : Nat → Nat) (k : Nat) (S : Nat → Nat) (ob : Option Addr) (m cm : Nat) (G : Nat → Nat) (w : World) (hK : Bytes w oa n K) (hnc : n ≤ cn) (hno : oa = none → n = 0) (hn : n < 100000000) (hk : k < 18446744073709551616) (hS : ∀ i, i < 32 → S i < 256) (hb : Bytes w ob m G) (hmo : ob = none → m = 0) (hm : m < 100000000) (hg : GV w) :
    Calls Tryd.prog 35 #[.slice oa n cn, .agg (hdL k S).toArray, .slice ob m cm] w fun e w' => ∃ v, e = .returned (.tuple #[.agg (hdL (nxN k) (nxS n K k S m G)).toArray, v]) ∧ Er v (nxE k) ∧ Below w.heap.size w w' := by
  obtain ⟨C, hC⟩ : ∃ C, (hdL k S).toArray = C := ⟨_, rfl⟩
  obtain ⟨wa, hwa⟩ : ∃ x, w.alloc (.cells C 65) = x := ⟨_, rfl⟩
  obtain ⟨wb, hwb⟩ : ∃ x, wa.alloc (.cells zeroH 65) = x := ⟨_, rfl⟩
  have hz := zero_h1
  have hba : Below w.heap.size w wa := by rw [← hwa]; exact (Below.refl _ _).alloc (Nat.le_refl _) _
  have hbb : Below wa.heap.size wa wb := by rw [← hwb]; exact (Below.refl _ _).alloc (Nat.le_refl _) _
  have hB1 : Blk wa w.heap.size C 65 := by rw [← hwa]; exact Blk.new _ _ _
  have H0 : Hid (Blk wb w.heap.size C 65 ∧ Blk wb wa.heap.size zeroH 65 ∧ Below w.heap.size w wb ∧ w.heap.size < wa.heap.size ∧ wa.heap.size < wb.heap.size) := Lib.hid ⟨Blk.below hB1 hbb (Blk.lt hB1), by rw [← hwb]; exact Blk.new _ _ _, hba.trans (hbb.mono hba.size), Blk.lt hB1, by rw [← hwb]; simp⟩
  have c0 : wb.cell? ⟨w.heap.size, 0, none⟩ = some (.int .u64 (k : Int)) := hd_cell0 (n := k) (S := S) (by rw [hC]; exact H0.out.1)
  have HKB : Hid (∀ w', Below w.heap.size w w' → Bytes w' oa n K) := Lib.hid fun w' h => hK.later h
  have HGB : Hid (∀ w', Below w.heap.size w w' → Bytes w' ob m G) := Lib.hid fun w' h => hb.later h
  have HNM : Hid (n ≤ cn ∧ n < 100000000 ∧ m < 100000000) := Lib.hid ⟨hnc, hn, hm⟩
  have HNO : Hid ((oa = none → n = 0) ∧ (ob = none → m = 0)) := Lib.hid ⟨hno, hmo⟩
  have HS := Lib.hid hS
  have HG8 : Hid (∀ i, i < m → G i < 256) := Lib.hid fun i hi => (hb i hi).1
  have HCE := Lib.hid hC
  have HIC : Hid ((Tryd.prog.info? 65).map (·.size) = some C.size) := Lib.hid (by rw [← hC, hd_size]; exact info_h1)
  have HIZ : Hid ((Tryd.prog.info? 65).map (·.size) = some zeroH.size) := Lib.hid (by rw [zeroH_size]; exact info_h1)
  have HGV : Hid (∀ w', Below w.heap.size w w' → GV w') := Lib.hid fun w' h => hg.later h
  rw [hC]
  clear hC hba hbb hB1 hK hnc hno hn hS hb hmo hm hg
  by_cases h64 : k = 18446744073709551615
  · subst h64
    have e1 : nxN 18446744073709551615 = 0 := rfl
    have e2 : nxS n K 18446744073709551615 S m G = fun _ => 0 := rfl
    have e3 : nxE 18446744073709551615 = 19 := rfl
    rw [e1, e2, e3]
    have hzh : (hdL 0 (fun _ => 0)).toArray = zeroH := rfl
    rw [hzh]
    have HX : Hid (Blk (wb.setCells wa.heap.size 0 zeroH.toList) wa.heap.size zeroH 65 ∧ wb.there wa.heap.size 0 zeroH.size ∧ Below w.heap.size w (wb.setCells wa.heap.size 0 zeroH.toList)) := Lib.hid ⟨Blk.whole H0.out.2.1 rfl, Blk.thereAll H0.out.2.1 _ (Nat.le_refl _), H0.out.2.2.1.trans ((Own.setCells _ 0 _).below (Nat.le_of_lt H0.out.2.2.2.1) H0.out.2.2.1.size)⟩
    clear e1 e2 e3 hzh
    go_enter Tryd.func35, Tryd.ntmps35
    go_wp2_with (first | (refine wpList_value rfl (exec_buildM (C := zeroH) rfl rfl build_z1) ?_) | (refine wpList_store_mid rfl 65 (.tmp 6) (.tmp 11) rfl wa.heap.size 0 zeroH rfl rfl HX.out.2.1 HIZ.out zeroH_one ?_))
    refine bodyPost_ret (v := .tuple #[.agg zeroH, .iface 118 (.int .i64 19)]) ?_ ?_ ?_
    · exact results_cell_tmp Tryd.results35 _ _ wa.heap.size 65 zeroH (0, 0) _ rfl HX.out.1 Tryd.underlying65 rfl HIZ.out
    · rfl
    · exact ⟨_, rfl, .inr ⟨rfl, by decide⟩, HX.out.2.2⟩
  · have q1 : ¬ (k : Int) = 18446744073709551615 := by omega
    have e1 : nxN k = k + 1 := if_neg h64
    have e2 : nxS n K k S m G = nx n K S m G := if_neg h64
    have e3 : nxE k = 0 := if_neg h64
    rw [e1, e2, e3]
    obtain ⟨k1, hk1⟩ : ∃ x, k + 1 = x := ⟨_, rfl⟩
    obtain ⟨N, hN⟩ : ∃ x, nx n K S m G = x := ⟨_, rfl⟩
    obtain ⟨CN, hCN⟩ : ∃ C, (rowC 32 N).toArray = C := ⟨_, rfl⟩
    obtain ⟨CH, hCH⟩ : ∃ C, (hdL k1 N).toArray = C := ⟨_, rfl⟩
    have q2 : IntKind.u64.wrap ((k : Int) + 1) = (k1 : Int) := by simp [IntKind.wrap, IntKind.bits, IntKind.signed]; omega
    have HBD : Hid (∀ w, (Instr.build 65 #[(0, .int .u64 (k1 : Int)), (1, .agg CN)]).run Tryd.prog w = .ok (.agg CH) w) := Lib.hid (by rw [← hCN, ← hCH]; exact build_h1 k1 N)
    have HIH : Hid ((Tryd.prog.info? 65).map (·.size) = some CH.size) := Lib.hid (by rw [← hCH, hd_size]; exact info_h1)
    have HIO : Hid (CH.all (·.oneCell') = true) := Lib.hid (by rw [← hCH]; exact hd_one _ _)
    have HIS : Hid (CH.size = zeroH.size) := Lib.hid (by rw [← hCH, hd_size, zeroH_size])
    have HNX : Hid (hmN n K (32 + m) (catF 32 S G) = N) := Lib.hid hN
    have HCN := Lib.hid hCN
    rw [hk1, hN, hCH]
    have HNE : Hid (w.heap.size ≠ wa.heap.size) := Lib.hid (by have := H0.out.2.2.2.1; omega)
    have HBW : Hid (∀ w', Own wa.heap.size wb w' → Below w.heap.size w w') := Lib.hid fun w' h => H0.out.2.2.1.trans (h.below (Nat.le_of_lt H0.out.2.2.2.1) H0.out.2.2.1.size)
    have HSM : Hid (∀ w', Bytes w' ob m G → Calls Tryd.prog 74 #[.agg C, .slice ob m cm] w' fun e w'' => ∃ o c, e = .returned (.slice o (32 + m) c) ∧ Bytes w'' o (32 + m) (catF 32 S G) ∧ 32 + m ≤ c ∧ o ≠ none ∧ Below w'.heap.size w' w'') := Lib.hid fun w' h => by rw [← HCE.out]; exact summed_any k S ob m cm G w' HS.out h HNO.out.2 (by have := HNM.out; omega)
    have HMC : Hid (∀ w' o c, Bytes w' oa n K → GV w' → Bytes w' o (32 + m) (catF 32 S G) → 32 + m ≤ c → Calls Tryd.prog 40 #[.slice oa n cn, .slice o (32 + m) c] w' fun e w'' => e = .returned (.agg CN) ∧ Below w'.heap.size w' w'') := Lib.hid fun w' o c h1 h2 h3 h4 => by
      have := mac_any oa o n cn (32 + m) c K (catF 32 S G) w' h1 HNM.out.1 HNO.out.1 (by have := HNM.out; omega) h3 h4 (by have := HNM.out; omega) h2
      rw [HNX.out, HCN.out] at this; exact this
    clear e1 e2 e3 hN hCN hCH h64 hk hk1
    go_enter Tryd.func35, Tryd.ntmps35
    go_wp2_with fail
    have HC0 := Lib.hid c0
    have hS_0 : Own wa.heap.size wb wb.drew := (Own.refl _ _).drew
    have hZ_0 : Blk wb.drew wa.heap.size zeroH 65 := H0.out.2.1
    clear c0 q1 hwa hwb hz
    refine wp_region_held_drew (S := (Own wa.heap.size wb)) (by kernel_rfl) ?_ (fun hHeld => ?_)
    · (try dsimp only)
      first | assumption
    generalize wb.drew = W0 at *
    refine wpAnyH_take (i := 0) (oi := { dst := some 13, op := Go.Op.fieldAddr 65 (Go.Operand.tmp 4) 0, type := 0, pos := "chain.go:34", after := #[], guard := none }) (v := ?_) rfl (by kernel_rfl) (by kernel_rfl) (by kernel_rfl) (fun _ _ _ h => h) (Or.inl ⟨by rfl, ?_⟩) (by assumption) ?_
    rotate_left
    · intro wS hSw
      (try dsimp only at hSw)
      go_simp
      (try with_reducible rfl)
    (try simp only [Act.put, List.setIfInBounds_toArray, List.set_cons_zero, List.set_cons_succ])
    refine wpAnyH_take (i := 1) (oi := { dst := some 14, op := Go.Op.load 62 (Go.Operand.tmp 13), type := 62, pos := "chain.go:34", after := #[{ on := 0, ground := Go.Ground.data }], guard := none }) (v := ?_) rfl (by kernel_rfl) (by kernel_rfl) (by kernel_rfl) (fun _ _ _ h => h) (Or.inl ⟨by rfl, ?_⟩) (by assumption) ?_
    rotate_left
    · intro wS hSw
      (have h0 := hSw.cell HC0.out HNE.out; go_simp; (try with_reducible rfl))
    (try simp only [Act.put, List.setIfInBounds_toArray, List.set_cons_zero, List.set_cons_succ])
    refine wpAnyH_take (i := 2) (oi := { dst := some 15, op := Go.Op.binOp Go.BinOp.add 62 (Go.Operand.tmp 14) (Go.Operand.const (Go.Value.int Go.IntKind.u64 1)) 62, type := 62, pos := "chain.go:34", after := #[{ on := 1, ground := Go.Ground.data }], guard := none }) (v := ?_) rfl (by kernel_rfl) (by kernel_rfl) (by kernel_rfl) (fun _ _ _ h => h) (Or.inl ⟨by rfl, ?_⟩) (by assumption) ?_
    rotate_left
    · intro wS hSw
      (try dsimp only at hSw)
      go_simp
      (try with_reducible rfl)
    (try simp only [Act.put, List.setIfInBounds_toArray, List.set_cons_zero, List.set_cons_succ])
    refine wpAnyH_take (i := 3) (oi := { dst := some 16, op := Go.Op.move (Go.Operand.tmp 0), type := 33, pos := "chain.go:34", after := #[], guard := none }) (v := ?_) rfl (by kernel_rfl) (by kernel_rfl) (by kernel_rfl) (fun _ _ _ h => h) (Or.inl ⟨by rfl, ?_⟩) (by assumption) ?_
    rotate_left
    · intro wS hSw
      (try dsimp only at hSw)
      go_simp
      (try with_reducible rfl)
    (try simp only [Act.put, List.setIfInBounds_toArray, List.set_cons_zero, List.set_cons_succ])
    refine wpAnyH_take (i := 4) (oi := { dst := some 17, op := Go.Op.load 65 (Go.Operand.tmp 4), type := 65, pos := "chain.go:34", after := #[], guard := none }) (v := ?_) rfl (by kernel_rfl) (by kernel_rfl) (by kernel_rfl) (fun _ _ _ h => h) (Or.inl ⟨by rfl, ?_⟩) (by assumption) ?_
    rotate_left
    · intro wS hSw
      refine exec_loadB (x := .tmp 4) (g := w.heap.size) (t := 65) ?_ ?_ (hSw.blk H0.out.1 HNE.out) Tryd.underlying65 rfl HIC.out <;> rfl
    (try simp only [Act.put, List.setIfInBounds_toArray, List.set_cons_zero, List.set_cons_succ])
    refine wpAnyH_take (i := 5) (oi := { dst := some 18, op := Go.Op.move (Go.Operand.tmp 2), type := 33, pos := "chain.go:34", after := #[], guard := none }) (v := ?_) rfl (by kernel_rfl) (by kernel_rfl) (by kernel_rfl) (fun _ _ _ h => h) (Or.inl ⟨by rfl, ?_⟩) (by assumption) ?_
    rotate_left
    · intro wS hSw
      (try dsimp only at hSw)
      go_simp
      (try with_reducible rfl)
    (try simp only [Act.put, List.setIfInBounds_toArray, List.set_cons_zero, List.set_cons_succ])
    refine wpAnyH_ready (rs := [6]) (by kernel_rfl) (by simp) ?_
    refine AllReadyH.cons (o := { dst := some 19, op := Go.Op.call { callee := Go.Callee.value (Go.Operand.func 74), args := #[Go.Operand.tmp 17, Go.Operand.tmp 18], argTypes := #[65, 33] }, type := 33, pos := "chain.go:34", after := #[{ on := 4, ground := Go.Ground.data }, { on := 5, ground := Go.Ground.data }], guard := none }) rfl (fun K hK => ?_) AllReadyH.nil
    go_simp
    (refine (HSM.out _ (HGB.out _ (HBW.out _ hS_0))).mono ?_; rintro e v_1 ⟨o1, c1, rfl, hB1, hc1, ho1, hb1⟩; have hS_1 := hS_0.trans (Own.of_below hb1); have hZ_1 := Blk.below hZ_0 hb1 (Blk.lt hZ_0); clear hb1 hS_0 hZ_0; skip)
    (try go_wp2_with fail)
    refine hK.out _ _ ?_ (fun hHeld => ?_)
    · (try dsimp only)
      first | assumption
    clear hK K
    (try simp only [Act.put, List.setIfInBounds_toArray, List.set_cons_zero, List.set_cons_succ])
    refine wpAnyH_ready (rs := [7]) (by kernel_rfl) (by simp) ?_
    refine AllReadyH.cons (o := { dst := some 20, op := Go.Op.call { callee := Go.Callee.value (Go.Operand.func 40), args := #[Go.Operand.tmp 16, Go.Operand.tmp 19], argTypes := #[33, 33] }, type := 63, pos := "chain.go:34", after := #[{ on := 3, ground := Go.Ground.data }, { on := 6, ground := Go.Ground.data }, { on := 6, ground := Go.Ground.chain }], guard := none }) rfl (fun K hK => ?_) AllReadyH.nil
    go_simp
    (refine (HMC.out _ _ _ (HKB.out _ (HBW.out _ hS_1)) (HGV.out _ (HBW.out _ hS_1)) hB1 hc1).mono ?_; rintro e v_2 ⟨rfl, hb2⟩; have hS_2 := hS_1.trans (Own.of_below hb2); have hZ_2 := Blk.below hZ_1 hb2 (Blk.lt hZ_1); clear hb2 hS_1 hZ_1 hB1 hc1; skip)
    (try go_wp2_with fail)
    refine hK.out _ _ ?_ (fun hHeld => ?_)
    · (try dsimp only)
      first | assumption
    clear hK K
    (try simp only [Act.put, List.setIfInBounds_toArray, List.set_cons_zero, List.set_cons_succ])
    refine wpAnyH_take (i := 8) (oi := { dst := some 21, op := Go.Op.build 65 #[(0, Go.Operand.tmp 15), (1, Go.Operand.tmp 20)], type := 65, pos := "chain.go:34", after := #[{ on := 2, ground := Go.Ground.data }, { on := 7, ground := Go.Ground.data }], guard := none }) (v := ?_) rfl (by kernel_rfl) (by kernel_rfl) (by kernel_rfl) (fun _ _ _ h => h) (Or.inl ⟨by rfl, ?_⟩) (by assumption) ?_
    rotate_left
    · intro wS hSw
      refine exec_buildM (C := CH) (parts := #[(0, .tmp 15), (1, .tmp 20)]) (ps := #[(0, .int .u64 (k1 : Int)), (1, .agg CN)]) ?_ ?_ HBD.out <;> first | rfl | (simp; done) | (simp; rfl) | (simp; exact ⟨rfl, rfl⟩)
    (try simp only [Act.put, List.setIfInBounds_toArray, List.set_cons_zero, List.set_cons_succ])
    refine wpAnyH_ready (rs := [9]) (by kernel_rfl) (by simp) ?_
    refine AllReadyH.cons (o := { dst := none, op := Go.Op.store 65 (Go.Operand.tmp 6) (Go.Operand.tmp 21), type := 0, pos := "chain.go:34", after := #[{ on := 8, ground := Go.Ground.data }, { on := 7, ground := Go.Ground.chain }, { on := 0, ground := Go.Ground.phase }, { on := 1, ground := Go.Ground.phase }, { on := 2, ground := Go.Ground.phase }, { on := 3, ground := Go.Ground.phase }, { on := 4, ground := Go.Ground.phase }, { on := 5, ground := Go.Ground.phase }, { on := 6, ground := Go.Ground.phase }, { on := 7, ground := Go.Ground.phase }, { on := 8, ground := Go.Ground.phase }], guard := none }) rfl (fun K hK => ?_) AllReadyH.nil
    (refine step_storeM (by kernel_rfl) 65 (.tmp 6) (.tmp 21) rfl wa.heap.size 0 CH rfl rfl (Blk.thereAll hZ_2 _ (Nat.le_of_eq HIS.out)) HIH.out HIO.out ?_; obtain ⟨v_3, hv3⟩ : ∃ q, v_2.setCells wa.heap.size 0 CH.toList = q := ⟨_, rfl⟩; rw [hv3]; have hS_3 : Own wa.heap.size wb v_3 := (by rw [← hv3]; exact hS_2.trans (Own.setCells _ 0 _)); have hF : Blk v_3 wa.heap.size CH 65 := (by rw [← hv3]; exact Blk.whole hZ_2 HIS.out); clear hv3 hZ_2 hS_2; skip)
    refine hK.out _ _ ?_ (fun hHeld => ?_)
    · (try dsimp only)
      first | assumption
    clear hK K
    (try simp only [Act.put, List.setIfInBounds_toArray, List.set_cons_zero, List.set_cons_succ])
    refine wpAnyH_take (i := 10) (oi := { dst := some 7, op := Go.Op.assign (Go.Operand.const Go.Value.nilIface), type := 41, pos := "chain.go:34", after := #[{ on := 9, ground := Go.Ground.chain }, { on := 0, ground := Go.Ground.phase }, { on := 1, ground := Go.Ground.phase }, { on := 2, ground := Go.Ground.phase }, { on := 3, ground := Go.Ground.phase }, { on := 4, ground := Go.Ground.phase }, { on := 5, ground := Go.Ground.phase }, { on := 6, ground := Go.Ground.phase }, { on := 7, ground := Go.Ground.phase }, { on := 8, ground := Go.Ground.phase }, { on := 9, ground := Go.Ground.phase }], guard := none }) (v := ?_) rfl (by kernel_rfl) (by kernel_rfl) (by kernel_rfl) (fun _ _ _ h => h) (Or.inl ⟨by rfl, ?_⟩) (by assumption) ?_
    rotate_left
    · intro wS hSw
      (try dsimp only at hSw)
      go_simp
      (try with_reducible rfl)
    (try simp only [Act.put, List.setIfInBounds_toArray, List.set_cons_zero, List.set_cons_succ])
    refine wpAnyH_done (by kernel_rfl) ?_ _
    go_wp2_with fail
    refine bodyPost_ret (v := .tuple #[.agg CH, .nilIface]) ?_ ?_ ?_
    · exact results_cell_tmp Tryd.results35 _ _ wa.heap.size 65 CH (0, 0) _ rfl hF Tryd.underlying65 rfl HIH.out
    · rfl
    · exact ⟨_, rfl, .inl ⟨rfl, rfl⟩, HBW.out _ hS_3⟩
set_option maxRecDepth 100000 in
set_option maxHeartbeats 8000000 in
theorem rnext_any (oa : Option Addr) (n cn : Nat) (K : Nat → Nat) (k : Nat) (S : Nat → Nat) (ob : Option Addr) (m cm : Nat) (G : Nat → Nat) (w : World) (hK : Bytes w oa n K) (hnc : n ≤ cn) (hno : oa = none → n = 0) (hn : n < 100000000) (hk : k < 18446744073709551616) (hS : ∀ i, i < 32 → S i < 256) (hb : Bytes w ob m G) (hmo : ob = none → m = 0) (hm : m < 100000000) :
    Calls Tryd.prog 41 #[.slice oa n cn, .agg (hdL k S).toArray, .slice ob m cm] w fun e w' => e = .returned (.tuple #[.agg (hdL (nxN k) (nxS n K k S m G)).toArray, .int .i64 (nxE k : Nat)]) ∧ Below w.heap.size w w' := by
  obtain ⟨C, hC⟩ : ∃ C, (hdL k S).toArray = C := ⟨_, rfl⟩
  obtain ⟨wa, hwa⟩ : ∃ x, w.alloc (.cells C 77) = x := ⟨_, rfl⟩
  obtain ⟨wb, hwb⟩ : ∃ x, wa.alloc (.cells zeroH 77) = x := ⟨_, rfl⟩
  have hz := zero_h2
  have hba : Below w.heap.size w wa := by rw [← hwa]; exact (Below.refl _ _).alloc (Nat.le_refl _) _
  have hbb : Below wa.heap.size wa wb := by rw [← hwb]; exact (Below.refl _ _).alloc (Nat.le_refl _) _
  have hB1 : Blk wa w.heap.size C 77 := by rw [← hwa]; exact Blk.new _ _ _
  have H0 : Hid (Blk wb w.heap.size C 77 ∧ Blk wb wa.heap.size zeroH 77 ∧ Below w.heap.size w wb ∧ w.heap.size < wa.heap.size ∧ wa.heap.size < wb.heap.size) := Lib.hid ⟨Blk.below hB1 hbb (Blk.lt hB1), by rw [← hwb]; exact Blk.new _ _ _, hba.trans (hbb.mono hba.size), Blk.lt hB1, by rw [← hwb]; simp⟩
  have c0 : wb.cell? ⟨w.heap.size, 0, none⟩ = some (.int .u64 (k : Int)) := hd_cell0 (n := k) (S := S) (by rw [hC]; exact H0.out.1)
  have HKB : Hid (∀ w', Below w.heap.size w w' → Bytes w' oa n K) := Lib.hid fun w' h => hK.later h
  have HGB : Hid (∀ w', Below w.heap.size w w' → Bytes w' ob m G) := Lib.hid fun w' h => hb.later h
  have HNM : Hid (n ≤ cn ∧ n < 100000000 ∧ m < 100000000) := Lib.hid ⟨hnc, hn, hm⟩
  have HNO : Hid ((oa = none → n = 0) ∧ (ob = none → m = 0)) := Lib.hid ⟨hno, hmo⟩
  have HS := Lib.hid hS
  have HG8 : Hid (∀ i, i < m → G i < 256) := Lib.hid fun i hi => (hb i hi).1
  have HCE := Lib.hid hC
  have HIC : Hid ((Tryd.prog.info? 77).map (·.size) = some C.size) := Lib.hid (by rw [← hC, hd_size]; exact info_h2)
  have HIZ : Hid ((Tryd.prog.info? 77).map (·.size) = some zeroH.size) := Lib.hid (by rw [zeroH_size]; exact info_h2)
  rw [hC]
  clear hC hba hbb hB1 hK hnc hno hn hS hb hmo hm
  by_cases h64 : k = 18446744073709551615
  · subst h64
    have e1 : nxN 18446744073709551615 = 0 := rfl
    have e2 : nxS n K 18446744073709551615 S m G = fun _ => 0 := rfl
    have e3 : nxE 18446744073709551615 = 19 := rfl
    rw [e1, e2, e3]
    have hzh : (hdL 0 (fun _ => 0)).toArray = zeroH := rfl
    rw [hzh]
    have HX : Hid (Blk (wb.setCells wa.heap.size 0 zeroH.toList) wa.heap.size zeroH 77 ∧ wb.there wa.heap.size 0 zeroH.size ∧ Below w.heap.size w (wb.setCells wa.heap.size 0 zeroH.toList)) := Lib.hid ⟨Blk.whole H0.out.2.1 rfl, Blk.thereAll H0.out.2.1 _ (Nat.le_refl _), H0.out.2.2.1.trans ((Own.setCells _ 0 _).below (Nat.le_of_lt H0.out.2.2.2.1) H0.out.2.2.1.size)⟩
    clear e1 e2 e3 hzh
    go_enter Tryd.func41, Tryd.ntmps41
    go_wp2_with (first | (refine wpList_value rfl (exec_buildM (C := zeroH) rfl rfl build_z2) ?_) | (refine wpList_store_mid rfl 77 (.tmp 6) (.tmp 12) rfl wa.heap.size 0 zeroH rfl rfl HX.out.2.1 HIZ.out zeroH_one ?_))
    refine bodyPost_ret (v := .tuple #[.agg zeroH, .int .i64 19]) ?_ ?_ ?_
    · exact results_cell_tmp Tryd.results41 _ _ wa.heap.size 77 zeroH (0, 0) _ rfl HX.out.1 Tryd.underlying77 rfl HIZ.out
    · rfl
    · exact ⟨rfl, HX.out.2.2⟩
  · have q1 : ¬ (k : Int) = 18446744073709551615 := by omega
    have e1 : nxN k = k + 1 := if_neg h64
    have e2 : nxS n K k S m G = nx n K S m G := if_neg h64
    have e3 : nxE k = 0 := if_neg h64
    rw [e1, e2, e3]
    obtain ⟨k1, hk1⟩ : ∃ x, k + 1 = x := ⟨_, rfl⟩
    obtain ⟨N, hN⟩ : ∃ x, nx n K S m G = x := ⟨_, rfl⟩
    obtain ⟨CN, hCN⟩ : ∃ C, (rowC 32 N).toArray = C := ⟨_, rfl⟩
    obtain ⟨CH, hCH⟩ : ∃ C, (hdL k1 N).toArray = C := ⟨_, rfl⟩
    have q2 : IntKind.u64.wrap ((k : Int) + 1) = (k1 : Int) := by simp [IntKind.wrap, IntKind.bits, IntKind.signed]; omega
    have HBD : Hid (∀ w, (Instr.build 77 #[(0, .int .u64 (k1 : Int)), (1, .agg CN)]).run Tryd.prog w = .ok (.agg CH) w) := Lib.hid (by rw [← hCN, ← hCH]; exact build_h2 k1 N)
    have HIH : Hid ((Tryd.prog.info? 77).map (·.size) = some CH.size) := Lib.hid (by rw [← hCH, hd_size]; exact info_h2)
    have HIO : Hid (CH.all (·.oneCell') = true) := Lib.hid (by rw [← hCH]; exact hd_one _ _)
    have HIS : Hid (CH.size = zeroH.size) := Lib.hid (by rw [← hCH, hd_size, zeroH_size])
    have HNX : Hid (hmN n K (32 + m) (catF 32 S G) = N) := Lib.hid hN
    have HCN := Lib.hid hCN
    rw [hk1, hN, hCH]
    have HNE : Hid (w.heap.size ≠ wa.heap.size) := Lib.hid (by have := H0.out.2.2.2.1; omega)
    have HBW : Hid (∀ w', Own wa.heap.size wb w' → Below w.heap.size w w') := Lib.hid fun w' h => H0.out.2.2.1.trans (h.below (Nat.le_of_lt H0.out.2.2.2.1) H0.out.2.2.1.size)
    have HMC : Hid (∀ w' o c, Bytes w' oa n K → Bytes w' o (32 + m) (catF 32 S G) → (o = none → 32 + m = 0) → Calls Tryd.prog 80 #[.slice oa n cn, .slice o (32 + m) c] w' fun e w'' => e = .returned (.agg CN) ∧ Below w'.heap.size w' w'') := Lib.hid fun w' o c h1 h2 h3 => by
      have := rmac_any oa o n cn (32 + m) c K (catF 32 S G) w' h1 HNO.out.1 (by have := HNM.out; omega) h2 h3 (by have := HNM.out; omega)
      rw [HNX.out, HCN.out] at this; exact this
    clear e1 e2 e3 hN hCN hCH h64 hk hk1
    go_enter Tryd.func41, Tryd.ntmps41
    have HB1 : Hid (Bytes wb (some ⟨w.heap.size, 1, none⟩) 32 S) := Lib.hid (hd_bytes (T := 77) (n := k) (by rw [HCE.out]; exact H0.out.1) HS.out)
    have HG0 : Hid (Grow wb wb.heap.size (.slice none 0 0) 0 (fun _ => 0)) := Lib.hid (Grow.nil _ _ _)
    go_wp2_with (first
      | (refine wpList_appO rfl (.tmp 13) (.tmp 15) rfl wb.heap.size (.slice none 0 0) 0 32 32 (some ⟨w.heap.size, 1, none⟩) (fun _ => 0) S wb rfl HG0.out rfl (fun e => by cases e) HB1.out (by omega) (Nat.le_refl _) ?_; intro v1 w1 hG1 hg1 hob1; rw [Nat.zero_add] at hG1; have hb1 := grow_bel HG0.out (Nat.le_refl _) hg1; have HG1 := Lib.hid (hG1.congr (g := S) fun i hi => by unfold catF; rw [if_neg (Nat.not_lt_zero _), Nat.sub_zero]); have HO1 := Lib.hid hb1; clear hG1 hg1 hob1 hb1)
      | (refine wpList_appO rfl (.tmp 16) (.tmp 17) rfl wb.heap.size v1 32 m cm ob S G w1 rfl HG1.out rfl HNO.out.2 (HGB.out _ (HBW.out _ (Own.of_below HO1.out))) (by have := HNM.out; omega) HO1.out.size ?_; intro v2 w2 hG2 hg2 hob2; have hb2 := grow_bel HG1.out HO1.out.size hg2; have HO2 := Lib.hid (HO1.out.trans hb2); obtain ⟨o3, c3, hv3, hB3, hc3, hn3⟩ := hG2.bytesC (catF_b HS.out HG8.out); subst hv3; have HB3 := Lib.hid hB3; have HN3 := Lib.hid hn3; clear hG2 hg2 hob2 hb2 hB3 hc3 hn3))
    have HC0 := Lib.hid c0
    have hS_0 : Own wa.heap.size wb w2.drew := (Own.of_below HO2.out).drew
    have hZ_0 : Blk w2.drew wa.heap.size zeroH 77 := (Blk.below H0.out.2.1 HO2.out (Blk.lt H0.out.2.1)).drew
    have hB_0 : Bytes w2.drew o3 (32 + m) (catF 32 S G) := HB3.out.later (Below.refl _ _).drew
    clear c0 q1 hwa hwb hz
    refine wp_region_held_drew (S := (Own wa.heap.size wb)) (by kernel_rfl) ?_ (fun hHeld => ?_)
    · (try dsimp only)
      first | assumption
    generalize w2.drew = W0 at *
    refine wpAnyH_take (i := 0) (oi := { dst := some 19, op := Go.Op.fieldAddr 77 (Go.Operand.tmp 4) 0, type := 0, pos := "ref.go:29", after := #[], guard := none }) (v := ?_) rfl (by kernel_rfl) (by kernel_rfl) (by kernel_rfl) (fun _ _ _ h => h) (Or.inl ⟨by rfl, ?_⟩) (by assumption) ?_
    rotate_left
    · intro wS hSw
      (try dsimp only at hSw)
      go_simp
      (try with_reducible rfl)
    (try simp only [Act.put, List.setIfInBounds_toArray, List.set_cons_zero, List.set_cons_succ])
    refine wpAnyH_take (i := 1) (oi := { dst := some 20, op := Go.Op.load 62 (Go.Operand.tmp 19), type := 62, pos := "ref.go:29", after := #[{ on := 0, ground := Go.Ground.data }], guard := none }) (v := ?_) rfl (by kernel_rfl) (by kernel_rfl) (by kernel_rfl) (fun _ _ _ h => h) (Or.inl ⟨by rfl, ?_⟩) (by assumption) ?_
    rotate_left
    · intro wS hSw
      (have h0 := hSw.cell HC0.out HNE.out; go_simp; (try with_reducible rfl))
    (try simp only [Act.put, List.setIfInBounds_toArray, List.set_cons_zero, List.set_cons_succ])
    refine wpAnyH_take (i := 2) (oi := { dst := some 21, op := Go.Op.binOp Go.BinOp.add 62 (Go.Operand.tmp 20) (Go.Operand.const (Go.Value.int Go.IntKind.u64 1)) 62, type := 62, pos := "ref.go:29", after := #[{ on := 1, ground := Go.Ground.data }], guard := none }) (v := ?_) rfl (by kernel_rfl) (by kernel_rfl) (by kernel_rfl) (fun _ _ _ h => h) (Or.inl ⟨by rfl, ?_⟩) (by assumption) ?_
    rotate_left
    · intro wS hSw
      (try dsimp only at hSw)
      go_simp
      (try with_reducible rfl)
    (try simp only [Act.put, List.setIfInBounds_toArray, List.set_cons_zero, List.set_cons_succ])
    refine wpAnyH_take (i := 3) (oi := { dst := some 22, op := Go.Op.move (Go.Operand.tmp 0), type := 33, pos := "ref.go:29", after := #[], guard := none }) (v := ?_) rfl (by kernel_rfl) (by kernel_rfl) (by kernel_rfl) (fun _ _ _ h => h) (Or.inl ⟨by rfl, ?_⟩) (by assumption) ?_
    rotate_left
    · intro wS hSw
      (try dsimp only at hSw)
      go_simp
      (try with_reducible rfl)
    (try simp only [Act.put, List.setIfInBounds_toArray, List.set_cons_zero, List.set_cons_succ])
    refine wpAnyH_take (i := 4) (oi := { dst := some 23, op := Go.Op.move (Go.Operand.tmp 8), type := 33, pos := "ref.go:29", after := #[], guard := none }) (v := ?_) rfl (by kernel_rfl) (by kernel_rfl) (by kernel_rfl) (fun _ _ _ h => h) (Or.inl ⟨by rfl, ?_⟩) (by assumption) ?_
    rotate_left
    · intro wS hSw
      (try dsimp only at hSw)
      go_simp
      (try with_reducible rfl)
    (try simp only [Act.put, List.setIfInBounds_toArray, List.set_cons_zero, List.set_cons_succ])
    refine wpAnyH_ready (rs := [5]) (by kernel_rfl) (by simp) ?_
    refine AllReadyH.cons (o := { dst := some 24, op := Go.Op.call { callee := Go.Callee.value (Go.Operand.func 80), args := #[Go.Operand.tmp 22, Go.Operand.tmp 23], argTypes := #[33, 33] }, type := 63, pos := "ref.go:29", after := #[{ on := 3, ground := Go.Ground.data }, { on := 4, ground := Go.Ground.data }], guard := none }) rfl (fun K hK => ?_) AllReadyH.nil
    go_simp
    (refine (HMC.out _ _ _ (HKB.out _ (HBW.out _ hS_0)) hB_0 HN3.out).mono ?_; rintro e v_2 ⟨rfl, hb2⟩; have hS_2 := hS_0.trans (Own.of_below hb2); have hZ_2 := Blk.below hZ_0 hb2 (Blk.lt hZ_0); clear hb2 hS_0 hZ_0 hB_0; skip)
    (try go_wp2_with fail)
    refine hK.out _ _ ?_ (fun hHeld => ?_)
    · (try dsimp only)
      first | assumption
    clear hK K
    (try simp only [Act.put, List.setIfInBounds_toArray, List.set_cons_zero, List.set_cons_succ])
    refine wpAnyH_take (i := 6) (oi := { dst := some 25, op := Go.Op.build 77 #[(0, Go.Operand.tmp 21), (1, Go.Operand.tmp 24)], type := 77, pos := "ref.go:29", after := #[{ on := 2, ground := Go.Ground.data }, { on := 5, ground := Go.Ground.data }], guard := none }) (v := ?_) rfl (by kernel_rfl) (by kernel_rfl) (by kernel_rfl) (fun _ _ _ h => h) (Or.inl ⟨by rfl, ?_⟩) (by assumption) ?_
    rotate_left
    · intro wS hSw
      refine exec_buildM (C := CH) (parts := #[(0, .tmp 21), (1, .tmp 24)]) (ps := #[(0, .int .u64 (k1 : Int)), (1, .agg CN)]) ?_ ?_ HBD.out <;> first | rfl | (simp; done) | (simp; rfl) | (simp; exact ⟨rfl, rfl⟩)
    (try simp only [Act.put, List.setIfInBounds_toArray, List.set_cons_zero, List.set_cons_succ])
    refine wpAnyH_ready (rs := [7]) (by kernel_rfl) (by simp) ?_
    refine AllReadyH.cons (o := { dst := none, op := Go.Op.store 77 (Go.Operand.tmp 6) (Go.Operand.tmp 25), type := 0, pos := "ref.go:29", after := #[{ on := 6, ground := Go.Ground.data }, { on := 5, ground := Go.Ground.chain }, { on := 0, ground := Go.Ground.phase }, { on := 1, ground := Go.Ground.phase }, { on := 2, ground := Go.Ground.phase }, { on := 3, ground := Go.Ground.phase }, { on := 4, ground := Go.Ground.phase }, { on := 5, ground := Go.Ground.phase }, { on := 6, ground := Go.Ground.phase }], guard := none }) rfl (fun K hK => ?_) AllReadyH.nil
    (refine step_storeM (by kernel_rfl) 77 (.tmp 6) (.tmp 25) rfl wa.heap.size 0 CH rfl rfl (Blk.thereAll hZ_2 _ (Nat.le_of_eq HIS.out)) HIH.out HIO.out ?_; obtain ⟨v_3, hv3⟩ : ∃ q, v_2.setCells wa.heap.size 0 CH.toList = q := ⟨_, rfl⟩; rw [hv3]; have hS_3 : Own wa.heap.size wb v_3 := (by rw [← hv3]; exact hS_2.trans (Own.setCells _ 0 _)); have hF : Blk v_3 wa.heap.size CH 77 := (by rw [← hv3]; exact Blk.whole hZ_2 HIS.out); clear hv3 hZ_2 hS_2; skip)
    refine hK.out _ _ ?_ (fun hHeld => ?_)
    · (try dsimp only)
      first | assumption
    clear hK K
    (try simp only [Act.put, List.setIfInBounds_toArray, List.set_cons_zero, List.set_cons_succ])
    refine wpAnyH_take (i := 8) (oi := { dst := some 7, op := Go.Op.assign (Go.Operand.const (Go.Value.int Go.IntKind.i64 0)), type := 3, pos := "ref.go:29", after := #[{ on := 7, ground := Go.Ground.chain }, { on := 0, ground := Go.Ground.phase }, { on := 1, ground := Go.Ground.phase }, { on := 2, ground := Go.Ground.phase }, { on := 3, ground := Go.Ground.phase }, { on := 4, ground := Go.Ground.phase }, { on := 5, ground := Go.Ground.phase }, { on := 6, ground := Go.Ground.phase }, { on := 7, ground := Go.Ground.phase }], guard := none }) (v := ?_) rfl (by kernel_rfl) (by kernel_rfl) (by kernel_rfl) (fun _ _ _ h => h) (Or.inl ⟨by rfl, ?_⟩) (by assumption) ?_
    rotate_left
    · intro wS hSw
      (try dsimp only at hSw)
      go_simp
      (try with_reducible rfl)
    (try simp only [Act.put, List.setIfInBounds_toArray, List.set_cons_zero, List.set_cons_succ])
    refine wpAnyH_done (by kernel_rfl) ?_ _
    go_wp2_with fail
    refine bodyPost_ret (v := .tuple #[.agg CH, .int .i64 0]) ?_ ?_ ?_
    · exact results_cell_tmp Tryd.results41 _ _ wa.heap.size 77 CH (0, 0) _ rfl hF Tryd.underlying77 rfl HIH.out
    · rfl
    · exact ⟨rfl, HBW.out _ hS_3⟩
end Go.Proofs.YtmabhjifldafaaaDoor
