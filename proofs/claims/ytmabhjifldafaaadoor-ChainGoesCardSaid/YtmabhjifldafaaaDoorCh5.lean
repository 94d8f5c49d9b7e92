/- A head as bytes, and back; the document's too. -/
import Derived.Test.YtmabhjifldafaaaDoorCh3
import Derived.Laws.Cover3
namespace Go.Proofs.YtmabhjifldafaaaDoor
set_option linter.unusedVariables false
set_option linter.unusedSimpArgs false
open Go.RowKit

theorem Bytes.hi {w : World} {b off n : Nat} {F : Nat → Nat} (h : Bytes w (some ⟨b, off, none⟩) n F) {k m : Nat} (hm : k + m ≤ n) : Bytes w (some ⟨b, off + k, none⟩) m (fun i => F (k + i)) := fun i hi => by
  obtain ⟨h1, b2, o2, e, h2⟩ := h (k + i) (by omega)
  cases e
  exact ⟨h1, b, off + k, rfl, by rw [Nat.add_assoc]; exact h2⟩
theorem Bytes.range {w : World} {b off n : Nat} {F : Nat → Nat} (h : Bytes w (some ⟨b, off, none⟩) n F) : w.rangeAt b off (rowC n F) := fun j v hv => by
  have hj : j < n := by have := (List.getElem?_eq_some_iff.1 hv).1; rw [rowC_len] at this; exact this
  obtain ⟨_, b2, o2, e, h2⟩ := h j hj
  cases e
  rw [rowC_get F hj] at hv
  rw [h2]; exact hv
theorem hd_set (k : Nat) (S : Nat → Nat) (i x : Nat) : (hdL k S).toArray.setIfInBounds (1 + i) (.int .u8 (x : Nat)) = (hdL k (upd S i x)).toArray := by
  rw [List.setIfInBounds_toArray]; unfold hdL; rw [Nat.add_comm, List.set_cons_succ, rowC_set]
theorem exec_s2a {o : Oper} {a : Act} {w : World} {x : Operand} {oa : Option Addr} {len cap : Nat} (ho : o.op = .sliceToArrayPointer 63 x) (hx : a.eval x = .slice oa len cap) (hn : 32 ≤ len) : (execOp a.eval o).run Tryd.prog w = .ok (.value (.pointer oa)) w := by
  unfold execOp
  simp only [ho, hx, Sem.run_bind, run_arrayAt w 63 5 32 oa len cap Tryd.underlying63 hn, Result.andThen_ok]
  rfl
/-- Which head of bytes, and the error's number. -/
def dhN (n : Nat) (F : Nat → Nat) : Nat := if n = 40 then rdN F 8 else 0
def dhS (n : Nat) (F : Nat → Nat) : Nat → Nat := if n = 40 then fun i => F (8 + i) else fun _ => 0
def dhE (n : Nat) : Nat := if n = 40 then 0 else 4
set_option maxRecDepth 100000 in
set_option maxHeartbeats 4000000 in
theorem enc_h (k : Nat) (S : Nat → Nat) (w : World) (hk : k < 18446744073709551616) (hS : ∀ i, i < 32 → S i < 256) :
    Calls Tryd.prog 46 #[.agg (hdL k S).toArray] w fun e w' => ∃ o c, e = .returned (.slice o 40 c) ∧ Bytes w' o 40 (hdB k S) ∧ 40 ≤ c ∧ c ≤ maxLen ∧ o ≠ none ∧ Below w.heap.size w w' := by
  obtain ⟨C, hC⟩ : ∃ C, (hdL k S).toArray = C := ⟨_, rfl⟩
  obtain ⟨wa, hwa⟩ : ∃ x, w.alloc (.cells C 65) = x := ⟨_, rfl⟩
  have hB0 : Blk wa w.heap.size (hdL k S).toArray 65 := by rw [hC, ← hwa]; exact Blk.new _ _ _
  have HB0 : Hid (Bytes wa (some ⟨w.heap.size, 1, none⟩) 32 S ∧ Below w.heap.size w wa) := Lib.hid ⟨hd_bytes hB0 hS, by rw [← hwa]; exact (Below.refl _ _).alloc (Nat.le_refl _) _⟩
  have c0 : wa.cell? ⟨w.heap.size, 0, none⟩ = some (.int .u64 (k : Int)) := hd_cell0 hB0
  have HC0 := Lib.hid c0
  have HNU : Hid (∀ w', Calls Tryd.prog 83 #[.int .u64 (k : Int)] w' (NumG k w')) := Lib.hid fun w' => num_own k w' hk
  have HS := Lib.hid hS
  rw [hC]
  clear hC hS hB0 hk
  go_enter Tryd.func46, Tryd.ntmps46
  go_wp2_with fail
  have hS_0 : Below wa.heap.size wa wa.drew := (Below.refl _ _).drew
  clear c0 hwa
  refine wp_region_held_drew (S := (Below wa.heap.size wa)) (by kernel_rfl) ?_ (fun hHeld => ?_)
  · (try dsimp only)
    first | assumption
  generalize wa.drew = W0 at *
  refine wpAnyH_take (i := 0) (oi := { dst := some 3, op := Go.Op.fieldAddr 65 (Go.Operand.tmp 1) 0, type := 0, pos := "chain.go:71", after := #[], guard := none }) (v := ?_) rfl (by kernel_rfl) (by kernel_rfl) (by kernel_rfl) (fun _ _ _ h => h) (Or.inl ⟨by rfl, ?_⟩) (by assumption) ?_
  rotate_left
  · intro wS hSw
    (try dsimp only at hSw)
    go_simp
    (try with_reducible rfl)
  (try simp only [Act.put, List.setIfInBounds_toArray, List.set_cons_zero, List.set_cons_succ])
  refine wpAnyH_take (i := 1) (oi := { dst := some 4, op := Go.Op.load 62 (Go.Operand.tmp 3), type := 62, pos := "chain.go:71", after := #[{ on := 0, ground := Go.Ground.data }], guard := none }) (v := ?_) rfl (by kernel_rfl) (by kernel_rfl) (by kernel_rfl) (fun _ _ _ h => h) (Or.inl ⟨by rfl, ?_⟩) (by assumption) ?_
  rotate_left
  · intro wS hSw
    (have h0 := cell_below hSw HC0.out; go_simp; (try with_reducible rfl))
  (try simp only [Act.put, List.setIfInBounds_toArray, List.set_cons_zero, List.set_cons_succ])
  refine wpAnyH_take (i := 3) (oi := { dst := some 6, op := Go.Op.fieldAddr 65 (Go.Operand.tmp 1) 1, type := 0, pos := "chain.go:71", after := #[], guard := none }) (v := ?_) rfl (by kernel_rfl) (by kernel_rfl) (by kernel_rfl) (fun _ _ _ h => h) (Or.inl ⟨by rfl, ?_⟩) (by assumption) ?_
  rotate_left
  · intro wS hSw
    (try dsimp only at hSw)
    go_simp
    (try with_reducible rfl)
  (try simp only [Act.put, List.setIfInBounds_toArray, List.set_cons_zero, List.set_cons_succ])
  refine wpAnyH_take (i := 4) (oi := { dst := some 7, op := Go.Op.slice 63 (Go.Operand.tmp 6) none none none, type := 33, pos := "chain.go:71", after := #[{ on := 3, ground := Go.Ground.data }], guard := none }) (v := ?_) rfl (by kernel_rfl) (by kernel_rfl) (by kernel_rfl) (fun _ _ _ h => h) (Or.inl ⟨by rfl, ?_⟩) (by assumption) ?_
  rotate_left
  · intro wS hSw
    (try dsimp only at hSw)
    go_simp
    (try with_reducible rfl)
  (try simp only [Act.put, List.setIfInBounds_toArray, List.set_cons_zero, List.set_cons_succ])
  refine wpAnyH_ready (rs := [2]) (by kernel_rfl) (by simp) ?_
  refine AllReadyH.cons (o := { dst := some 5, op := Go.Op.call { callee := Go.Callee.value (Go.Operand.func 83), args := #[Go.Operand.tmp 4], argTypes := #[62] }, type := 33, pos := "chain.go:71", after := #[{ on := 1, ground := Go.Ground.data }], guard := none }) rfl (fun K hK => ?_) AllReadyH.nil
  go_simp
  (refine (HNU.out _).mono ?_; rintro e v_1 ⟨v, rfl, hG, hb1⟩; have hS_1 := hS_0.trans (hb1.mono hS_0.size); have hG : Grow v_1 wa.heap.size v 8 (numB k 8) := hG.base hS_0.size; clear hb1 hS_0; skip)
  (try go_wp2_with fail)
  refine hK.out _ _ ?_ (fun hHeld => ?_)
  · (try dsimp only)
    first | assumption
  clear hK K
  (try simp only [Act.put, List.setIfInBounds_toArray, List.set_cons_zero, List.set_cons_succ])
  refine wpAnyH_ready (rs := [5]) (by kernel_rfl) (by simp) ?_
  refine AllReadyH.cons (o := { dst := some 8, op := Go.Op.call { callee := Go.Callee.builtin Go.Builtin.append, args := #[Go.Operand.tmp 5, Go.Operand.tmp 7], argTypes := #[33, 33] }, type := 33, pos := "chain.go:71", after := #[{ on := 2, ground := Go.Ground.data }, { on := 4, ground := Go.Ground.data }, { on := 2, ground := Go.Ground.chain }], guard := none }) rfl (fun K hK => ?_) AllReadyH.nil
  (refine step_appO rfl (.tmp 5) (.tmp 7) rfl wa.heap.size v 8 32 32 (some ⟨w.heap.size, 1, none⟩) (numB k 8) S v_1 rfl hG rfl (fun e => by cases e) (HB0.out.1.later hS_1) (by omega) hS_1.size ?_; intro v2 w2 hG2 hg2 hob2; have hS_2 := hS_1.trans (grow_bel hG hS_1.size hg2); obtain ⟨o3, c3, hv3, _, hB3, hc3, hm3⟩ := hG2.some8 (by omega) (hdB_lt HS.out); subst hv3; clear hG2 hg2 hob2 hS_1 hG; skip)
  refine hK.out _ _ ?_ (fun hHeld => ?_)
  · (try dsimp only)
    first | assumption
  clear hK K
  (try simp only [Act.put, List.setIfInBounds_toArray, List.set_cons_zero, List.set_cons_succ])
  refine wpAnyH_take (i := 6) (oi := { dst := some 2, op := Go.Op.assign (Go.Operand.tmp 8), type := 33, pos := "chain.go:71", after := #[{ on := 5, ground := Go.Ground.data }, { on := 5, ground := Go.Ground.chain }, { on := 0, ground := Go.Ground.phase }, { on := 1, ground := Go.Ground.phase }, { on := 2, ground := Go.Ground.phase }, { on := 3, ground := Go.Ground.phase }, { on := 4, ground := Go.Ground.phase }, { on := 5, ground := Go.Ground.phase }], guard := none }) (v := ?_) rfl (by kernel_rfl) (by kernel_rfl) (by kernel_rfl) (fun _ _ _ h => h) (Or.inl ⟨by rfl, ?_⟩) (by assumption) ?_
  rotate_left
  · intro wS hSw
    (try dsimp only at hSw)
    go_simp
    (try with_reducible rfl)
  (try simp only [Act.put, List.setIfInBounds_toArray, List.set_cons_zero, List.set_cons_succ])
  refine wpAnyH_done (by kernel_rfl) ?_ _
  go_wp2_with fail
  go_ret
  exact ⟨some ⟨o3, 0, none⟩, c3, rfl, hB3, hc3, hm3, fun e => (by cases e), HB0.out.2.trans (hS_2.mono HB0.out.2.size)⟩
set_option maxRecDepth 100000 in
set_option maxHeartbeats 4000000 in
theorem renc_h (k : Nat) (S : Nat → Nat) (w : World) (hk : k < 18446744073709551616) (hS : ∀ i, i < 32 → S i < 256) :
    Calls Tryd.prog 47 #[.agg (hdL k S).toArray] w fun e w' => ∃ o c, e = .returned (.slice o 40 c) ∧ Bytes w' o 40 (hdB k S) ∧ 40 ≤ c ∧ c ≤ maxLen ∧ o ≠ none ∧ Below w.heap.size w w' := by
  obtain ⟨C, hC⟩ : ∃ C, (hdL k S).toArray = C := ⟨_, rfl⟩
  obtain ⟨wa, hwa⟩ : ∃ x, w.alloc (.cells C 77) = x := ⟨_, rfl⟩
  have hB0 : Blk wa w.heap.size (hdL k S).toArray 77 := by rw [hC, ← hwa]; exact Blk.new _ _ _
  have HB0 : Hid (Bytes wa (some ⟨w.heap.size, 1, none⟩) 32 S ∧ Below w.heap.size w wa) := Lib.hid ⟨hd_bytes hB0 hS, by rw [← hwa]; exact (Below.refl _ _).alloc (Nat.le_refl _) _⟩
  have c0 : wa.cell? ⟨w.heap.size, 0, none⟩ = some (.int .u64 (k : Int)) := hd_cell0 hB0
  have HC0 := Lib.hid c0
  have HNU : Hid (∀ w', Calls Tryd.prog 84 #[.int .u64 (k : Int)] w' (NumG k w')) := Lib.hid fun w' => rnum_own k w' hk
  have HS := Lib.hid hS
  rw [hC]
  clear hC hS hB0 hk
  go_enter Tryd.func47, Tryd.ntmps47
  go_wp2_with fail
  refine (HNU.out _).mono ?_
  rintro e w1 ⟨v, rfl, hG, hS_1⟩
  clear c0 hwa
  go_wp2_with (first | (refine wpList_appO rfl (.tmp 7) (.tmp 9) rfl wa.heap.size v 8 32 32 (some ⟨w.heap.size, 1, none⟩) (numB k 8) S w1 rfl hG rfl (fun e => by cases e) (HB0.out.1.later hS_1) (by omega) hS_1.size ?_; intro v2 w2 hG2 hg2 hob2; have hS_2 := hS_1.trans (grow_bel hG hS_1.size hg2); obtain ⟨o3, c3, hv3, _, hB3, hc3, hm3⟩ := hG2.some8 (by omega) (hdB_lt HS.out); subst hv3; clear hG2 hg2 hob2 hS_1 hG))
  go_ret
  exact ⟨some ⟨o3, 0, none⟩, c3, rfl, hB3, hc3, hm3, fun e => (by cases e), HB0.out.2.trans (hS_2.mono HB0.out.2.size)⟩
set_option maxRecDepth 100000 in
set_option maxHeartbeats 4000000 in
theorem dec_h (ob : Option Addr) (n cn : Nat) (F : Nat → Nat) (w : World) (hB : Bytes w ob n F) (hn : n ≤ cn) (hcn : cn ≤ maxLen) :
    Calls Tryd.prog 43 #[.slice ob n cn] w fun e w' => ∃ v, e = .returned (.tuple #[.agg (hdL (dhN n F) (dhS n F)).toArray, v]) ∧ Er v (dhE n) ∧ Below w.heap.size w w' := by
  unfold maxLen at hcn
  have hz := zero_h1
  obtain ⟨wa, hwa⟩ : ∃ x, w.alloc (.cells zeroH 65) = x := ⟨_, rfl⟩
  have hba : Below w.heap.size w wa := by rw [← hwa]; exact (Below.refl _ _).alloc (Nat.le_refl _) _
  have H0 : Hid (Blk wa w.heap.size zeroH 65 ∧ Below w.heap.size w wa) := Lib.hid ⟨by rw [← hwa]; exact Blk.new _ _ _, hba⟩
  have HIZ : Hid ((Tryd.prog.info? 65).map (·.size) = some zeroH.size) := Lib.hid (by rw [zeroH_size]; exact info_h1)
  have HB := Lib.hid (hB.later hba)
  have q0 : (n : Int) ≤ 9223372036854775807 := by omega
  clear hba hB
  by_cases h40 : n = 40
  · subst h40
    obtain ⟨_, b, off, rfl, _⟩ := HB.out 0 (by omega)
    rw [show dhN 40 F = rdN F 8 from rfl, show dhS 40 F = fun i => F (8 + i) from rfl, show dhE 40 = 0 from rfl]
    obtain ⟨k, hk⟩ : ∃ x, rdN F 8 = x := ⟨_, rfl⟩
    obtain ⟨S, hS⟩ : ∃ x : Nat → Nat, (fun i => F (8 + i)) = x := ⟨_, rfl⟩
    obtain ⟨CN, hCN⟩ : ∃ C, (rowC 32 S).toArray = C := ⟨_, rfl⟩
    obtain ⟨CH, hCH⟩ : ∃ C, (hdL k S).toArray = C := ⟨_, rfl⟩
    have hRD := read_any (some ⟨b, off, none⟩) 8 cn F wa (HB.out.mono (by omega)) (by unfold maxLen; omega)
    have HRD : Hid (Calls Tryd.prog 81 #[.slice (some ⟨b, off, none⟩) 8 cn] wa fun e w' => e = .returned (.tuple #[.int .u64 (k : Int), .nilIface]) ∧ Below wa.heap.size wa w') := Lib.hid (hRD.mono fun e w' ⟨h1, h2⟩ => ⟨(by rcases h2 with ⟨_, h3⟩ | ⟨h3, _⟩ <;> first | (rw [← hk]; exact h3) | exact absurd rfl h3), h1⟩)
    have HBD : Hid (∀ w, (Instr.build 65 #[(0, .int .u64 (k : Int)), (1, .agg CN)]).run Tryd.prog w = .ok (.agg CH) w) := Lib.hid (by rw [← hCN, ← hCH]; exact build_h1 k S)
    have HIH : Hid ((Tryd.prog.info? 65).map (·.size) = some CH.size) := Lib.hid (by rw [← hCH, hd_size]; exact info_h1)
    have HIO : Hid (CH.all (·.oneCell') = true) := Lib.hid (by rw [← hCH]; exact hd_one _ _)
    have HIS : Hid (CH.size = zeroH.size) := Lib.hid (by rw [← hCH, hd_size, zeroH_size])
    have HI3 : Hid ((Tryd.prog.info? 63).map (·.size) = some (rowC 32 S).length) := Lib.hid (by rw [rowC_len]; kernel_rfl)
    have HCN := Lib.hid hCN
    have HBS : Hid (Bytes wa (some ⟨b, off + 8, none⟩) 32 S) := Lib.hid (hS ▸ HB.out.hi (k := 8) (m := 32) (by omega))
    have n1 : ¬ (cn : Int) = 8 := by omega
    have n2 : ¬ cn = 8 := by omega
    have n3 : (8 : Int) ≤ (cn : Int) := by omega
    have n4 : (40 : Int) ≤ (cn : Int) := by omega
    rw [hk, hS, hCH]
    clear hRD hk hS hCN hCH
    go_enter Tryd.func43, Tryd.ntmps43
    go_wp2_with fail
    refine HRD.out.mono ?_
    rintro e w1 ⟨rfl, hb1⟩
    have H1 : Hid (Blk w1 w.heap.size zeroH 65 ∧ Below w.heap.size w w1 ∧ w1.rangeAt b (off + 8) (rowC 32 S)) := Lib.hid ⟨Blk.below H0.out.1 hb1 (Blk.lt H0.out.1), H0.out.2.trans (hb1.mono H0.out.2.size), (HBS.out.later hb1).range⟩
    have HX : Hid (Blk (w1.setCells w.heap.size 0 CH.toList) w.heap.size CH 65 ∧ w1.there w.heap.size 0 CH.size ∧ Below w.heap.size w (w1.setCells w.heap.size 0 CH.toList)) := Lib.hid ⟨Blk.whole H1.out.1 HIS.out, Blk.thereAll H1.out.1 _ (Nat.le_of_eq HIS.out), H1.out.2.1.trans ((Own.setCells _ 0 _).below (Nat.le_refl _) H1.out.2.1.size)⟩
    clear hb1 hwa hz
    go_wp2_with (first
      | (refine wpList_value rfl (exec_s2a (x := .tmp 23) (oa := some ⟨b, off + 8, none⟩) (len := 32) (cap := cn - 8) rfl rfl (by decide)) ?_)
      | (refine wpList_load_mid rfl 63 (.tmp 24) rfl b (off + 8) rfl (rowC 32 S) _ H1.out.2.2 Tryd.underlying63 rfl HI3.out ?_; rw [HCN.out])
      | (refine wpList_value rfl (exec_buildM (C := CH) (parts := #[(0, .tmp 21), (1, .tmp 25)]) (ps := #[(0, .int .u64 (k : Int)), (1, .agg CN)]) rfl (by first | rfl | (simp; done) | (simp; rfl) | (simp; exact ⟨rfl, rfl⟩)) HBD.out) ?_)
      | (refine wpList_store_mid rfl 65 (.tmp 2) (.tmp 26) rfl w.heap.size 0 CH rfl rfl HX.out.2.1 HIH.out HIO.out ?_))
    refine bodyPost_ret (v := .tuple #[.agg CH, .nilIface]) ?_ ?_ ?_
    · exact results_cell_tmp Tryd.results43 _ _ w.heap.size 65 CH (0, 0) _ rfl HX.out.1 Tryd.underlying65 rfl HIH.out
    · rfl
    · exact ⟨_, rfl, .inl ⟨rfl, rfl⟩, HX.out.2.2⟩
  · have q1 : ¬ (n : Int) = 40 := by omega
    rw [show dhN n F = 0 from if_neg h40, show dhS n F = fun _ => 0 from if_neg h40, show dhE n = 4 from if_neg h40]
    have hzh : (hdL 0 (fun _ => 0)).toArray = zeroH := rfl
    rw [hzh]
    have HX : Hid (Blk (wa.setCells w.heap.size 0 zeroH.toList) w.heap.size zeroH 65 ∧ wa.there w.heap.size 0 zeroH.size ∧ Below w.heap.size w (wa.setCells w.heap.size 0 zeroH.toList)) := Lib.hid ⟨Blk.whole H0.out.1 rfl, Blk.thereAll H0.out.1 _ (Nat.le_refl _), H0.out.2.trans ((Own.setCells _ 0 _).below (Nat.le_refl _) H0.out.2.size)⟩
    clear h40 hzh
    go_enter Tryd.func43, Tryd.ntmps43
    go_wp2_with (first | (refine wpList_value rfl (exec_buildM (C := zeroH) rfl rfl build_z1) ?_) | (refine wpList_store_mid rfl 65 (.tmp 2) (.tmp 9) rfl w.heap.size 0 zeroH rfl rfl HX.out.2.1 HIZ.out zeroH_one ?_))
    refine bodyPost_ret (v := .tuple #[.agg zeroH, .iface 118 (.int .i64 4)]) ?_ ?_ ?_
    · exact results_cell_tmp Tryd.results43 _ _ w.heap.size 65 zeroH (0, 0) _ rfl HX.out.1 Tryd.underlying65 rfl HIZ.out
    · rfl
    · exact ⟨_, rfl, .inr ⟨rfl, by decide⟩, HX.out.2.2⟩
/-- The sum read so far. -/
def frS (F : Nat → Nat) (i : Nat) : Nat → Nat := fun j => if j < i then F (8 + j) else 0
theorem frS_step {F : Nat → Nat} {i j : Nat} (hj : i + 1 = j) (t : Nat) : upd (frS F i) i (F (8 + i)) t = frS F j t := by
  unfold upd frS
  by_cases e3 : t = i
  · rw [if_pos e3, if_pos (by omega), e3]
  · rw [if_neg e3]
    by_cases e4 : t < i
    · rw [if_pos e4, if_pos (by omega)]
    · rw [if_neg e4, if_neg (by omega)]
set_option maxRecDepth 100000 in
set_option maxHeartbeats 4000000 in
theorem rdec_h (ob : Option Addr) (n cn : Nat) (F : Nat → Nat) (w : World) (hB : Bytes w ob n F) (hn : n ≤ cn) (hcn : cn ≤ maxLen) :
    Calls Tryd.prog 44 #[.slice ob n cn] w fun e w' => e = .returned (.tuple #[.agg (hdL (dhN n F) (dhS n F)).toArray, .int .i64 (dhE n : Nat)]) ∧ Below w.heap.size w w' := by
  unfold maxLen at hcn
  have hz := zero_h2
  obtain ⟨wa, hwa⟩ : ∃ x, w.alloc (.cells zeroH 77) = x := ⟨_, rfl⟩
  have hba : Below w.heap.size w wa := by rw [← hwa]; exact (Below.refl _ _).alloc (Nat.le_refl _) _
  have H0 : Hid (Blk wa w.heap.size zeroH 77 ∧ Below w.heap.size w wa) := Lib.hid ⟨by rw [← hwa]; exact Blk.new _ _ _, hba⟩
  have HIZ : Hid ((Tryd.prog.info? 77).map (·.size) = some zeroH.size) := Lib.hid (by rw [zeroH_size]; exact info_h2)
  have HB : Hid (∀ w', Below w.heap.size w w' → Bytes w' ob n F) := Lib.hid fun w' h => hB.later h
  have HBI := Lib.hid hB
  have q0 : (n : Int) ≤ 9223372036854775807 := by omega
  clear hba hB
  by_cases h40 : n = 40
  · subst h40
    obtain ⟨_, b, off, rfl, _⟩ := HBI.out 0 (by omega)
    rw [show dhN 40 F = rdN F 8 from rfl, show dhS 40 F = fun i => F (8 + i) from rfl, show dhE 40 = 0 from rfl]
    obtain ⟨k, hk⟩ : ∃ x, rdN F 8 = x := ⟨_, rfl⟩
    have hl0 := laidHd wa zeroH zeroH 77 rfl
    obtain ⟨w1, hw1⟩ : ∃ x, (wa.alloc (.cells zeroH 77)).setCells wa.heap.size 0 zeroH.toList = x := ⟨_, rfl⟩
    rw [hw1] at hl0
    obtain ⟨g5, hg5⟩ : ∃ x, wa.heap.size = x := ⟨_, rfl⟩
    have HG5 : Hid (w.heap.size < g5 ∧ w.heap.size ≠ g5) := Lib.hid (by have := Blk.lt H0.out.1; omega)
    rw [hg5] at hl0 hw1
    have H1 : Hid (Blk w1 g5 zeroH 77 ∧ Blk w1 w.heap.size zeroH 77 ∧ Below w.heap.size w w1 ∧ (wa.alloc (.cells zeroH 77)).there g5 0 zeroH.size) := Lib.hid ⟨hl0.1, Blk.below H0.out.1 (hg5 ▸ hl0.2.1) (Blk.lt H0.out.1), H0.out.2.trans ((hg5 ▸ hl0.2.1).mono H0.out.2.size), hl0.2.2⟩
    have HRD : Hid (Calls Tryd.prog 82 #[.slice (some ⟨b, off, none⟩) 8 cn] w1 fun e w' => e = .returned (.tuple #[.int .u64 (k : Int), .int .i64 0]) ∧ Below w1.heap.size w1 w') := Lib.hid ((rread_any (some ⟨b, off, none⟩) 8 cn F w1 ((HB.out _ H1.out.2.2.1).mono (by omega)) (by unfold maxLen; omega)).mono fun e w' ⟨h1, h2⟩ => ⟨(by rcases h2 with ⟨_, h3⟩ | ⟨h3, _⟩ <;> first | (rw [← hk]; exact h3) | exact absurd rfl h3), h1⟩)
    have n3 : (8 : Int) ≤ (cn : Int) := by omega
    have HK := Lib.hid hk
    have HN := Lib.hid hn
    clear hk hl0 hn
    go_enter Tryd.func44, Tryd.ntmps44
    go_wp2_with (first
      | (refine wpList_value rfl (exec_buildM (C := zeroH) rfl rfl build_z2) ?_)
      | ((try rw [hg5]); refine wpList_store_mid rfl 77 (.tmp 4) (.tmp 10) rfl g5 0 zeroH rfl rfl H1.out.2.2.2 HIZ.out zeroH_one ?_; rw [hw1]))
    refine HRD.out.mono ?_
    rintro e w2 ⟨rfl, hb2⟩
    clear hwa hw1 hg5 hz
    have H2 : Hid (Blk w2 g5 (hdL 0 (frS F 0)).toArray 77 ∧ Blk w2 w.heap.size zeroH 77 ∧ Below w.heap.size w w2) := Lib.hid ⟨Blk.below H1.out.1 hb2 (Blk.lt H1.out.1), Blk.below H1.out.2.1 hb2 (Blk.lt H1.out.2.1), H1.out.2.2.1.trans (hb2.mono H1.out.2.2.1.size)⟩
    have c0 : w2.cell? ⟨g5, 0, none⟩ = some (.int .u64 0) := hd_cell0 (n := 0) H2.out.1
    have f0 : w2.frozen? ⟨g5, 0, none⟩ = false := Blk.free H2.out.1 0
    have H3 : Hid (Blk (w2.setCell ⟨g5, 0, none⟩ (.int .u64 (k : Int))) g5 (hdL k (frS F 0)).toArray 77 ∧ Blk (w2.setCell ⟨g5, 0, none⟩ (.int .u64 (k : Int))) w.heap.size zeroH 77 ∧ Below w.heap.size w (w2.setCell ⟨g5, 0, none⟩ (.int .u64 (k : Int)))) := Lib.hid ⟨by have := Blk.set H2.out.1 0 (.int .u64 (k : Int)); exact this, Blk.set_other H2.out.2.1 HG5.out.2 _, H2.out.2.2.setCell (Nat.le_of_lt HG5.out.1) _⟩
    clear hb2 H1
    go_wp2_with fail
    go_loopw [5] (fun x wr => ∃ (i : Nat), i ≤ 32 ∧ x = .int .i64 (i : Int) ∧ Blk wr g5 (hdL k (frS F i)).toArray 77 ∧ Blk wr w.heap.size zeroH 77 ∧ Below w.heap.size w wr) (fun x _ => 32 - (intOf x).toNat)
    case atStart => exact ⟨0, Nat.zero_le _, rfl, H3.out⟩
    case round =>
      obtain ⟨i, hi, rfl, hX⟩ := hrel
      have HX := Lib.hid hX
      clear hX
      by_cases hlt : i < 32
      · as_aux_lemma =>
        have i1 : (i : Int) < 32 := by omega
        have i0 : (0 : Int) ≤ (i : Int) := by omega
        obtain ⟨y, hy⟩ : ∃ y, F (8 + i) = y := ⟨_, rfl⟩
        obtain ⟨z, hzz⟩ : ∃ z, frS F i i = z := ⟨_, rfl⟩
        obtain ⟨e, he⟩ : ∃ e, 8 + i = e := ⟨_, rfl⟩
        obtain ⟨j, hj⟩ : ∃ j, i + 1 = j := ⟨_, rfl⟩
        have c1 : wr.cell? ⟨b, off + e, none⟩ = some (.int .u8 (y : Int)) := by
          obtain ⟨_, b2, o2, e2, h2⟩ := HB.out wr HX.out.2.2 (8 + i) (by omega)
          cases e2
          rw [hy, he] at h2; exact h2
        have c2 : wr.cell? ⟨g5, 1 + i, none⟩ = some (.int .u8 (z : Int)) := by
          rw [Blk.cell HX.out.1, ← hzz]
          have := hdL_at k (frS F i) hlt
          simpa using this
        have f2 : wr.frozen? ⟨g5, 1 + i, none⟩ = false := Blk.free HX.out.1 _
        have k1 : (8 : Int) + (i : Int) = (e : Int) := by omega
        have k2 : IntKind.i64.wrap (e : Int) = (e : Int) := IntWalk.i64_in _ (by omega)
        have k3 : (0 : Int) ≤ (e : Int) := by omega
        have k4 : (e : Int) < 40 := by omega
        have k5 : IntKind.i64.wrap ((i : Int) + 1) = (j : Int) := by rw [IntWalk.i64_in _ (by omega)]; omega
        have H4 : Hid (Blk (wr.setCell ⟨g5, 1 + i, none⟩ (.int .u8 (y : Int))) g5 (hdL k (frS F j)).toArray 77 ∧ Blk (wr.setCell ⟨g5, 1 + i, none⟩ (.int .u8 (y : Int))) w.heap.size zeroH 77 ∧ Below w.heap.size w (wr.setCell ⟨g5, 1 + i, none⟩ (.int .u8 (y : Int)))) := Lib.hid ⟨by
          have := Blk.set HX.out.1 (1 + i) (.int .u8 (y : Int))
          have hcg := hdL_congr (n := k) (fun t (_ : t < 32) => frS_step (F := F) hj t)
          rw [hy] at hcg
          rw [hd_set, hcg] at this
          exact this, Blk.set_other HX.out.2.1 HG5.out.2 _, HX.out.2.2.setCell (Nat.le_of_lt HG5.out.1) _⟩
        have HJ : Hid (i < 32 ∧ i + 1 = j) := Lib.hid ⟨hlt, hj⟩
        clear hy hzz he hj hlt hi
        go_wp2_with fail
        go_roundw
        case rel => exact ⟨j, by have := HJ.out; omega, by first | rfl | go_num, H4.out⟩
        case measure => have := HJ.out; simp [intOf] <;> omega
      · obtain rfl : i = 32 := by omega
        obtain ⟨C, hC⟩ : ∃ C, (hdL k (frS F 32)).toArray = C := ⟨_, rfl⟩
        have HIC : Hid ((Tryd.prog.info? 77).map (·.size) = some C.size) := Lib.hid (by rw [← hC, hd_size]; exact info_h2)
        have HIO : Hid (C.all (·.oneCell') = true) := Lib.hid (by rw [← hC]; exact hd_one _ _)
        have HTB : Hid (Blk wr g5 C 77) := Lib.hid (by have := HX.out.1; rw [hC] at this; exact this)
        have HXX : Hid (Blk (wr.setCells w.heap.size 0 C.toList) w.heap.size C 77 ∧ wr.there w.heap.size 0 C.size ∧ Below w.heap.size w (wr.setCells w.heap.size 0 C.toList)) := Lib.hid ⟨Blk.whole HX.out.2.1 (by rw [← hC, hd_size, zeroH_size]), Blk.thereAll HX.out.2.1 _ (by rw [← hC, hd_size, zeroH_size]; exact Nat.le_refl _), HX.out.2.2.trans ((Own.setCells _ 0 _).below (Nat.le_refl _) HX.out.2.2.size)⟩
        have HCE : Hid ((hdL (rdN F 8) (fun i => F (8 + i))).toArray = C) := Lib.hid (by rw [HK.out, ← hC, hdL_congr (S := fun i => F (8 + i)) (U := frS F 32) (fun t ht => by unfold frS; rw [if_pos ht])])
        clear hlt hi hC
        go_wp2_with (first
          | (refine wpList_load_row rfl 77 (.tmp 4) rfl g5 rfl 77 C (0, 0) _ HTB.out Tryd.underlying77 rfl HIC.out ?_)
          | (refine wpList_store_mid rfl 77 (.tmp 2) (.tmp 30) rfl w.heap.size 0 C rfl rfl HXX.out.2.1 HIC.out HIO.out ?_))
        refine bodyPost_ret (v := .tuple #[.agg C, .int .i64 0]) ?_ ?_ ⟨by rw [HCE.out]; rfl, HXX.out.2.2⟩
        · exact results_cell_tmp Tryd.results44 _ _ w.heap.size 77 C (0, 0) _ rfl HXX.out.1 Tryd.underlying77 rfl HIC.out
        · rfl
  · have q1 : ¬ (n : Int) = 40 := by omega
    rw [show dhN n F = 0 from if_neg h40, show dhS n F = fun _ => 0 from if_neg h40, show dhE n = 4 from if_neg h40]
    have hzh : (hdL 0 (fun _ => 0)).toArray = zeroH := rfl
    rw [hzh]
    have HX : Hid (Blk (wa.setCells w.heap.size 0 zeroH.toList) w.heap.size zeroH 77 ∧ wa.there w.heap.size 0 zeroH.size ∧ Below w.heap.size w (wa.setCells w.heap.size 0 zeroH.toList)) := Lib.hid ⟨Blk.whole H0.out.1 rfl, Blk.thereAll H0.out.1 _ (Nat.le_refl _), H0.out.2.trans ((Own.setCells _ 0 _).below (Nat.le_refl _) H0.out.2.size)⟩
    clear h40 hzh
    go_enter Tryd.func44, Tryd.ntmps44
    go_wp2_with (first | (refine wpList_value rfl (exec_buildM (C := zeroH) rfl rfl build_z2) ?_) | (refine wpList_store_mid rfl 77 (.tmp 2) (.tmp 9) rfl w.heap.size 0 zeroH rfl rfl HX.out.2.1 HIZ.out zeroH_one ?_))
    refine bodyPost_ret (v := .tuple #[.agg zeroH, .int .i64 4]) ?_ ?_ ?_
    · exact results_cell_tmp Tryd.results44 _ _ w.heap.size 77 zeroH (0, 0) _ rfl HX.out.1 Tryd.underlying77 rfl HIZ.out
    · rfl
    · exact ⟨rfl, HX.out.2.2⟩
end Go.Proofs.YtmabhjifldafaaaDoor
