/- A disk: a sector read. -/
import Derived.Test.YtcohllhmfghlfaaDoorDk5
import Derived.Test.YtcohllhmfghlfaaDoorRf2
import Derived.Test.YtcohllhmfghlfaaDoorClone
import Derived.Deep.RegionHeld
import Derived.Shelf.Abstract
namespace Go.Proofs.YtcohllhmfghlfaaDoor
set_option linter.unusedVariables false
set_option linter.unusedSimpArgs false
open Go.RowKit

/-- A function that ranges over one, from its body. -/
theorem calls_marks {P : Program} {f : FuncId} {fn : Func} {c : Code} {args : Array Value} {w : World} {R : Ending → World → Prop} (hf : P.funcs[f]? = some fn) (hb : fn.body = some c)
    (h : c.wp P (bodyPostM Fence.wide 0 P fn R) { tmps := args ++ Array.replicate (fn.ntmps - args.size) undef, defers := [] } w) : Calls P f args w R :=
  (callsIn_wide (n := 0)).1 (callsIn_of_wp_marks hf hb trivial ((wpIn_wide (n := 0)).2 h) rfl)
/-- How a stretch is left that is left in one way alone. -/
def NormQ (Q : Exit → Act → World → Prop) : Exit → Act → World → Prop
  | .normal, a, w => Q .normal a w
  | _, _, _ => False
theorem normQ_of {Q : Exit → Act → World → Prop} {a : Act} {w : World} (h : Q .normal a w) : NormQ Q .normal a w := h
theorem only_normal {P : Program} {c : Code} {Q : Exit → Act → World → Prop} {a : Act} {w : World} (h : c.wp P (NormQ Q) a w) : c.wp P Q a w :=
  Code.wp_mono (fun e a w h => by cases e <;> first | exact h | exact h.elim) h
def zS : Array Value := (rowC 64 (fun _ => 0)).toArray
theorem own_put (W : World) (D : Nat) (o : Obj) : Own D W (W.putObj D o) := ⟨rfl, rfl, rfl, by simp, fun k _ hn => World.putObj_heap_other hn⟩
theorem zS_size : zS.size = 64 := by unfold zS; rw [List.size_toArray, rowC_len]
theorem zS_run (w : World) : (zeroValue 68).run Tryd.prog w = .ok (.agg zS) w := by kernel_rfl
set_option maxRecDepth 100000 in
theorem backward_any (oa : Option Addr) (n cap : Nat) (w : World) : Calls Tryd.prog 34 #[.slice oa n cap] w fun e w' => e = .returned (.func (.func 46) #[] #[.pointer (some ⟨w.heap.size, 0, none⟩)]) ∧ w' = w.alloc (.cells #[.slice oa n cap] 62) := by
  go_enter Tryd.func34, Tryd.ntmps34
  go_wp2_with fail
  go_ret
  exact ⟨rfl, rfl⟩
theorem DK.secRange {w : World} {B d sb i : Nat} {v : Value} {s : DS} (h : DK w B d sb v s) (hi : i < s.n) : w.rangeAt sb (i * 64) (rowC 64 (s.S i)) := fun k u hu => by
  have hk : k < 64 := by have := (List.getElem?_eq_some_iff.1 hu).1; rw [rowC_len] at this; exact this
  rw [Blk.cell h.sf, List.getElem?_toArray, List.getElem?_append_left (by rw [rws_len (k := 64) fun i _ => rowC_len _ _]; omega), rws_get (k := 64) (fun i _ => rowC_len _ _) hi hk]
  exact hu
/-- No write of these has been the sector's. -/
def RI (s : DS) (i : Nat) (W4 : World) (r : Nat) (A : World) : Prop := Below W4.heap.size W4 A ∧ ∀ t, t < r → s.A (s.nw - 1 - t) ≠ i
def RF (s : DS) (i b xb : Nat) (w A : World) : Prop := Below b w A ∧ Blk A xb (rowC 64 (curF s.S s.A s.D s.nw i)).toArray 68
theorem curF_hit {S : Nat → Nat → Nat} {A : Nat → Nat} {D : Nat → Nat → Nat} {i : Nat} : ∀ (r m : Nat), r < m → (∀ t, t < r → A (m - 1 - t) ≠ i) → A (m - 1 - r) = i → curF S A D m i = D (m - 1 - r)
  | 0, m + 1, _, _, h => by show (if A m = i then _ else _) = _; exact if_pos h
  | r + 1, m + 1, hr, hn, h => by
    have h0 : A m ≠ i := hn 0 (Nat.succ_pos _)
    show (if A m = i then _ else _) = _
    rw [if_neg h0]
    have e : ∀ t, m + 1 - 1 - (t + 1) = m - 1 - t := fun t => by omega
    rw [e r] at h ⊢
    exact curF_hit r m (by omega) (fun t ht => by have := hn (t + 1) (by omega); rw [e t] at this; exact this) h
theorem curF_none {S : Nat → Nat → Nat} {A : Nat → Nat} {D : Nat → Nat → Nat} {i : Nat} : ∀ (m : Nat), (∀ t, t < m → A (m - 1 - t) ≠ i) → curF S A D m i = S i
  | 0, _ => rfl
  | m + 1, hn => by
    have h0 : A m ≠ i := hn 0 (Nat.succ_pos _)
    show (if A m = i then _ else _) = _
    rw [if_neg h0]
    exact curF_none m (fun t ht => by have := hn (t + 1) (by omega); rw [show m + 1 - 1 - (t + 1) = m - 1 - t by omega] at this; exact this)
theorem Blk.bytes64 {w : World} {g : Nat} {f : Nat → Nat} {T : TypeId} (h : Blk w g (rowC 64 f).toArray T) (hf : ∀ k, k < 64 → f k < 256) : Bytes w (some ⟨g, 0, none⟩) 64 f := fun k hk => by
  refine ⟨hf k hk, g, 0, rfl, ?_⟩
  have h9 := Blk.cell h (0 + k)
  rw [h9, Nat.zero_add, List.getElem?_toArray]
  exact rowC_get f hk
theorem curF_lt {S : Nat → Nat → Nat} {A : Nat → Nat} {D : Nat → Nat → Nat} {i : Nat} (hS : ∀ k, k < 64 → S i k < 256) : ∀ (m : Nat), (∀ j, j < m → ∀ k, k < 64 → D j k < 256) → ∀ k, k < 64 → curF S A D m i k < 256
  | 0, _ => hS
  | m + 1, h => fun k hk => by
    show (if A m = i then D m else curF S A D m i) k < 256
    split
    · exact h m (Nat.lt_succ_self _) k hk
    · exact curF_lt hS m (fun j hj => h j (by omega)) k hk
set_option maxRecDepth 100000 in
set_option maxHeartbeats 8000000 in
theorem read_any {w : World} {B d sb i : Nat} {v : Value} {s : DS} (h : DK w B d sb v s) (hi : i < s.n) :
    Calls Tryd.prog 16 #[.pointer (some ⟨d, 0, none⟩), .int .i64 (i : Int)] w fun e w' => Below w.heap.size w w' ∧ ((s.dn = true ∧ e = .returned (.tuple #[.slice none 0 0, .iface 60 (.int .i64 23)])) ∨
      (s.dn = false ∧ ∃ od c, e = .returned (.tuple #[.slice od 64 c, .nilIface]) ∧ (∀ a, od = some a → w.heap.size ≤ a.block) ∧ 64 ≤ c ∧ c ≤ maxLen ∧ Bytes w' od 64 (curF s.S s.A s.D s.nw i))) := by
  have hz := zS_run
  obtain ⟨oa, cap, rfl, hnc, _⟩ := rws_cells h.wt (fun i _ => wtC_len _ _)
  have hnb := h.nb
  have hz2 := zW_run
  have hn2 := h.n0.2
  obtain ⟨b, hb⟩ : ∃ y, w.heap.size = y := ⟨_, rfl⟩
  rw [hb]
  obtain ⟨w1, hw1⟩ : ∃ y, w.alloc (.cells #[.int .i64 (i : Int)] 3) = y := ⟨_, rfl⟩
  have hb1 : Below b w w1 := by rw [← hw1, ← hb]; exact (Below.refl _ _).alloc (Nat.le_refl _) _
  have hx1 : Blk w1 b #[.int .i64 (i : Int)] 3 := by rw [← hw1, ← hb]; exact Blk.new _ _ _
  have h1 : DK w1 B d sb (.slice oa s.nw cap) s := h.later (by rw [hb]; exact hb1)
  have hh := has_any h1 (i : Int) (by omega)
  rw [decide_eq_true (show (0 : Int) ≤ (i : Int) ∧ (i : Int) < (s.n : Int) by omega)] at hh
  have HH := Lib.hid hh
  have c3 := h1.c0.2.2.2.1
  have ci : w1.cell? ⟨b, 0, none⟩ = some (.int .i64 (i : Int)) := by rw [Blk.cell hx1]; rfl
  have hl := h.lt
  have HDK := Lib.hid h1
  have HB1 := Lib.hid (show Below b w w1 ∧ Blk w1 b #[.int .i64 (i : Int)] 3 ∧ d < b ∧ sb < b ∧ i < s.n from ⟨hb1, hx1, by rw [← hb]; exact hl.1, by rw [← hb]; exact hl.2.1, hi⟩)
  clear h h1 hh hb1 hx1 hl hn2
  cases hdn : s.dn with
  | true =>
    rw [hdn] at c3
    clear hdn
    refine calls_marks Tryd.func16 rfl ?_
    simp only [Tryd.ntmps16, List.size_toArray, List.length_cons, List.length_nil, Nat.reduceAdd, Nat.reduceSub, Array.replicate_succ, Array.replicate_zero, List.push_toArray, List.append_toArray, List.nil_append, List.cons_append]
    go_wp2_with fail
    refine HH.out.mono ?_
    rintro e w' ⟨rfl, rfl⟩
    go_wp2_with fail
    refine ⟨_, results_tmp2 rfl _ _ _, ?_⟩
    exact ⟨HB1.out.1, .inl ⟨trivial, rfl⟩⟩
  | false =>
  rw [hdn] at c3
  clear hdn
  refine calls_marks Tryd.func16 rfl ?_
  simp only [Tryd.ntmps16, List.size_toArray, List.length_cons, List.length_nil, Nat.reduceAdd, Nat.reduceSub, Array.replicate_succ, Array.replicate_zero, List.push_toArray, List.append_toArray, List.nil_append, List.cons_append]
  go_wp2_with fail
  refine HH.out.mono ?_
  rintro e w' ⟨rfl, rfl⟩
  obtain ⟨F, hF⟩ : ∃ y, s.S i = y := ⟨_, rfl⟩
  have HFF := Lib.hid hF
  have HC0 : Hid (∀ A', Below w1.drew.heap.size w1.drew A' → A'.cell? ⟨d, 0, none⟩ = some (.slice (some ⟨sb, 0, none⟩) s.n s.c)) := Lib.hid fun A' hA => (HDK.out.later ((Below.refl _ w1).drew.trans hA)).c0.1
  have HC1 : Hid (∀ A', Below w1.drew.heap.size w1.drew A' → A'.cell? ⟨b, 0, none⟩ = some (.int .i64 (i : Int))) := Lib.hid fun A' hA => cell_below ((Below.refl _ w1).drew.trans hA) ci
  have HC2 : Hid (∀ A', Below w1.drew.heap.size w1.drew A' → A'.rangeAt sb (i * 64) (rowC 64 F)) := Lib.hid fun A' hA => by rw [← hF]; exact (HDK.out.later ((Below.refl _ w1).drew.trans hA)).secRange HB1.out.2.2.2.2
  have HW1 := Lib.hid (show Below w1.heap.size w1 w1.drew from (Below.refl _ w1).drew)
  have i1 : (i : Int) < (s.n : Int) := by have := HB1.out.2.2.2.2; omega
  have i0 : (0 : Int) ≤ (i : Int) := by omega
  clear hF HH ci
  go_upto_region 5 with fail
  clear c3
  refine only_normal ?_
  refine wp_region_held_drew (S := (Below w1.drew.heap.size w1.drew)) (by kernel_rfl) ?_ (fun hHeld => ?_)
  · (try dsimp only)
    (first | exact Below.refl _ _ | assumption)
  generalize w1.drew = WR at *
  refine wpAnyH_take (i := 0) (oi := { dst := some 19, op := Go.Op.move (Go.Operand.tmp 0), type := 23, pos := "disk.go:55", after := #[], guard := none }) (v := ?_) rfl (by kernel_rfl) (by kernel_rfl) (by kernel_rfl) (fun _ _ _ h => h) (Or.inl ⟨by rfl, ?_⟩) (by assumption) ?_
  rotate_left
  · intro wS hSw
    (try dsimp only at hSw)
    go_simp
    (try with_reducible rfl)
  (try simp only [Act.put, List.setIfInBounds_toArray, List.set_cons_zero, List.set_cons_succ])
  refine wpAnyH_take (i := 1) (oi := { dst := some 20, op := Go.Op.nilCheck (Go.Operand.tmp 19), type := 0, pos := "disk.go:55", after := #[{ on := 0, ground := Go.Ground.data }], guard := none }) (v := ?_) rfl (by kernel_rfl) (by kernel_rfl) (by kernel_rfl) (fun _ _ _ h => h) (Or.inl ⟨by rfl, ?_⟩) (by assumption) ?_
  rotate_left
  · intro wS hSw
    (try dsimp only at hSw)
    go_simp
    (try with_reducible rfl)
  (try simp only [Act.put, List.setIfInBounds_toArray, List.set_cons_zero, List.set_cons_succ])
  refine wpAnyH_take (i := 2) (oi := { dst := some 21, op := Go.Op.fieldAddr 64 (Go.Operand.tmp 20) 0, type := 0, pos := "disk.go:55", after := #[{ on := 1, ground := Go.Ground.data }], guard := none }) (v := ?_) rfl (by kernel_rfl) (by kernel_rfl) (by kernel_rfl) (fun _ _ _ h => h) (Or.inl ⟨by rfl, ?_⟩) (by assumption) ?_
  rotate_left
  · intro wS hSw
    (try dsimp only at hSw)
    go_simp
    (try with_reducible rfl)
  (try simp only [Act.put, List.setIfInBounds_toArray, List.set_cons_zero, List.set_cons_succ])
  refine wpAnyH_take (i := 3) (oi := { dst := some 22, op := Go.Op.load 61 (Go.Operand.tmp 21), type := 61, pos := "disk.go:55", after := #[{ on := 2, ground := Go.Ground.data }], guard := none }) (v := ?_) rfl (by kernel_rfl) (by kernel_rfl) (by kernel_rfl) (fun _ _ _ h => h) (Or.inl ⟨by rfl, ?_⟩) (by assumption) ?_
  rotate_left
  · intro wS hSw
    have c0 := HC0.out wS hSw
    go_simp
    (try with_reducible rfl)
  (try simp only [Act.put, List.setIfInBounds_toArray, List.set_cons_zero, List.set_cons_succ])
  refine wpAnyH_take (i := 4) (oi := { dst := some 23, op := Go.Op.load 3 (Go.Operand.tmp 3), type := 3, pos := "disk.go:55", after := #[], guard := none }) (v := ?_) rfl (by kernel_rfl) (by kernel_rfl) (by kernel_rfl) (fun _ _ _ h => h) (Or.inl ⟨by rfl, ?_⟩) (by assumption) ?_
  rotate_left
  · intro wS hSw
    have c1 := HC1.out wS hSw
    go_simp
    (try with_reducible rfl)
  (try simp only [Act.put, List.setIfInBounds_toArray, List.set_cons_zero, List.set_cons_succ])
  refine wpAnyH_take (i := 5) (oi := { dst := some 24, op := Go.Op.indexAddr 61 (Go.Operand.tmp 22) (Go.Operand.tmp 23), type := 0, pos := "disk.go:55", after := #[{ on := 3, ground := Go.Ground.data }, { on := 4, ground := Go.Ground.data }], guard := none }) (v := ?_) rfl (by kernel_rfl) (by kernel_rfl) (by kernel_rfl) (fun _ _ _ h => h) (Or.inl ⟨by rfl, ?_⟩) (by assumption) ?_
  rotate_left
  · intro wS hSw
    (try dsimp only at hSw)
    go_simp
    (try with_reducible rfl)
  (try simp only [Act.put, List.setIfInBounds_toArray, List.set_cons_zero, List.set_cons_succ])
  refine wpAnyH_take (i := 6) (oi := { dst := some 25, op := Go.Op.load 68 (Go.Operand.tmp 24), type := 68, pos := "disk.go:55", after := #[{ on := 5, ground := Go.Ground.data }], guard := none }) (v := ?_) rfl (by kernel_rfl) (by kernel_rfl) (by kernel_rfl) (fun _ _ _ h => h) (Or.inl ⟨by rfl, ?_⟩) (by assumption) ?_
  rotate_left
  · intro wS hSw
    refine exec_loadM (x := .tmp 24) (b := sb) (f := i * 64) (cs := rowC 64 F) (d := _) ?_ ?_ (HC2.out wS hSw) Tryd.underlying68 rfl info_sector <;> rfl
  (try simp only [Act.put, List.setIfInBounds_toArray, List.set_cons_zero, List.set_cons_succ])
  refine wpAnyH_ready (rs := [7]) (by kernel_rfl) (by simp) ?_
  refine AllReadyH.cons (o := { dst := some 6, op := Go.Op.alloc 68, type := 0, pos := "disk.go:55", after := #[], guard := none }) rfl (fun K hK => ?_) AllReadyH.nil
  go_simp
  (obtain ⟨W1, hW1⟩ : ∃ q, WR.alloc (.cells zS 68) = q := ⟨_, rfl⟩; rw [hW1]; have hb1 : Below WR.heap.size WR W1 := (by rw [← hW1]; exact (Below.refl _ _).alloc (Nat.le_refl _) _); have hK1 : Blk W1 WR.heap.size zS 68 := (by rw [← hW1]; exact Blk.new _ _ _); clear hW1; skip)
  (try go_wp2_with fail)
  refine hK.out _ _ ?_ (fun hHeld => ?_)
  · (try dsimp only)
    (first | exact Below.refl _ _ | assumption)
  clear hK K
  (try simp only [Act.put, List.setIfInBounds_toArray, List.set_cons_zero, List.set_cons_succ])
  refine wpAnyH_ready (rs := [8]) (by kernel_rfl) (by simp) ?_
  refine AllReadyH.cons (o := { dst := none, op := Go.Op.store 68 (Go.Operand.tmp 6) (Go.Operand.tmp 25), type := 0, pos := "disk.go:55", after := #[{ on := 7, ground := Go.Ground.data }, { on := 6, ground := Go.Ground.data }, { on := 0, ground := Go.Ground.phase }, { on := 1, ground := Go.Ground.phase }, { on := 2, ground := Go.Ground.phase }, { on := 3, ground := Go.Ground.phase }, { on := 4, ground := Go.Ground.phase }, { on := 5, ground := Go.Ground.phase }, { on := 6, ground := Go.Ground.phase }, { on := 7, ground := Go.Ground.phase }], guard := none }) rfl (fun K hK => ?_) AllReadyH.nil
  (refine step_storeM (by rfl) 68 (.tmp 6) (.tmp 25) rfl WR.heap.size 0 (rowC 64 F).toArray rfl rfl (Blk.thereAll hK1 _ (by rw [zS_size, List.size_toArray, rowC_len]; exact Nat.le_refl _)) (by rw [List.size_toArray]; exact info_sector) (all_oneCell_toArray (rowC_one _ _)) ?_; obtain ⟨W2, hW2⟩ : ∃ q, W1.setCells WR.heap.size 0 (rowC 64 F).toArray.toList = q := ⟨_, rfl⟩; rw [hW2]; have hK2 : Blk W2 WR.heap.size (rowC 64 F).toArray 68 := (by rw [← hW2]; exact Blk.whole hK1 (by rw [zS_size, List.size_toArray, rowC_len])); have hb2 : Below WR.heap.size WR W2 := (by rw [← hW2]; exact hb1.trans ((Own.setCells _ 0 _).below (Nat.le_refl _) hb1.size)); clear hW2 hb1 hK1; skip)
  refine hK.out _ _ ?_ (fun hHeld => ?_)
  · (try dsimp only)
    (first | exact Below.refl _ _ | assumption)
  clear hK K
  (try simp only [Act.put, List.setIfInBounds_toArray, List.set_cons_zero, List.set_cons_succ])
  refine wpAnyH_done (by kernel_rfl) ?_ _
  refine normQ_of ?_
  have HW2 := Lib.hid (show Below w1.heap.size w1 W2 from HW1.out.trans (hb2.mono HW1.out.size))
  have HX2 := Lib.hid hK2
  have HXB := Lib.hid (show w1.heap.size ≤ WR.heap.size from HW1.out.size)
  have HXL := Lib.hid (show WR.heap.size < W2.heap.size from Blk.lt hK2)
  obtain ⟨xb, hxb⟩ : ∃ y, WR.heap.size = y := ⟨_, rfl⟩
  rw [hxb] at HX2 HXB HXL ⊢
  have HD2 := Lib.hid (HDK.out.later HW2.out)
  have c1 : W2.cell? ⟨d, 1, none⟩ = some (.slice oa s.nw cap) := HD2.out.c0.2.1
  clear hb2 hK2 hxb hnc i1 i0 HC0 HC1 HC2 HW1
  go_wp2_with (go_at_call 34; refine (backward_any oa s.nw cap _).mono ?_; rintro e w' ⟨rfl, rfl⟩)
  obtain ⟨W4, hW4⟩ : ∃ y, W2.alloc (.cells #[.slice oa s.nw cap] 62) = y := ⟨_, rfl⟩
  rw [hW4]
  obtain ⟨bn, hbn⟩ : ∃ y, W2.heap.size = y := ⟨_, rfl⟩
  rw [hbn]
  have hB24 : Below W2.heap.size W2 W4 := by rw [← hW4]; exact (Below.refl _ _).alloc (Nat.le_refl _) _
  have hBN4 : Blk W4 bn #[.slice oa s.nw cap] 62 := by rw [← hW4, ← hbn]; exact Blk.new _ _ _
  have HD4 := Lib.hid (HD2.out.later hB24)
  have HX4 : Hid (Blk W4 xb (rowC 64 F).toArray 68) := Lib.hid (Blk.below HX2.out hB24 HXL.out)
  have HI4 : Hid (Blk W4 b #[.int .i64 (i : Int)] 3) := Lib.hid (Blk.below (Blk.below HB1.out.2.1 HW2.out (Blk.lt HB1.out.2.1)) hB24 (Nat.lt_of_lt_of_le (Blk.lt HB1.out.2.1) HW2.out.size))
  have HBW : Hid (Below b w W4) := Lib.hid ((HB1.out.1.trans (HW2.out.mono (Nat.le_of_lt (Blk.lt HB1.out.2.1)))).trans (hB24.mono (Nat.le_trans (Nat.le_of_lt (Blk.lt HB1.out.2.1)) HW2.out.size)))
  have HN4 := Lib.hid hBN4
  have HS4 : Hid (bn < W4.heap.size ∧ xb < bn ∧ b < xb) := Lib.hid ⟨Blk.lt hBN4, by rw [← hbn]; exact HXL.out, Nat.lt_of_lt_of_le (Blk.lt HB1.out.2.1) HXB.out⟩
  obtain ⟨z4, hz4⟩ : ∃ y, W4.heap.size = y := ⟨_, rfl⟩
  have HZ4 := Lib.hid hz4
  rw [hz4] at HS4
  have HNB := Lib.hid hnb
  clear hW4 hbn hB24 hBN4 HX2 HXL HXB HD2 c1 HW2 hz4 hnb
  refine wp_rangeR2 (gf := 46) (lb := #[.pointer (some ⟨bn, 0, none⟩)]) (N := s.nw) rfl (enters_of Tryd.func46 (by kernel_rfl) rfl) (backward_seq bn s.nw cap oa s.A s.D HNB.out) (fun _ => rfl)
    (RI s i W4) (RI s i W4) (fun c A => c = .exit 0 ∧ RF s i b xb w A) ?hG (fun r A h => ⟨h.1.drew, h.2⟩) (fun c A h => ⟨h.1, h.2.1.drew, h.2.2⟩) ?hR ?hRk ?hIt ?hIt' ?hIxt ?h0
    (fun r a A => ∃ g, a = { tmps := #[.pointer (some ⟨d, 0, none⟩), .int .i64 (i : Int), undef, .pointer (some ⟨b, 0, none⟩), .slice none 0 0, .nilIface, .pointer (some ⟨xb, 0, none⟩), undef, .pointer (some ⟨g, 0, none⟩), .pointer (some ⟨d, 0, none⟩), .int .i64 (i : Int), .bool true, .bool false, undef, .pointer (some ⟨d, 0, none⟩), .pointer (some ⟨d, 0, none⟩), .pointer (some ⟨d, 3, none⟩), .bool false, undef, .pointer (some ⟨d, 0, none⟩), .pointer (some ⟨d, 0, none⟩), .pointer (some ⟨d, 0, none⟩), .slice (some ⟨sb, 0, none⟩) s.n s.c, .int .i64 (i : Int), .pointer (some ⟨sb, i * 64, none⟩), .agg (rowC 64 F).toArray, .pointer (some ⟨d, 0, none⟩), .pointer (some ⟨d, 0, none⟩), .pointer (some ⟨d, 1, none⟩), .slice oa s.nw cap, .func (.func 46) #[] #[.pointer (some ⟨bn, 0, none⟩)], .int .i64 ((s.nw - 1 - r : Nat) : Int), .agg (wtC (s.A (s.nw - 1 - r)) (s.D (s.nw - 1 - r))).toArray, undef, undef, undef, undef, undef, undef, undef, undef], defers := [] } ∧ z4 ≤ g ∧ Blk A g (wtC (s.A (s.nw - 1 - r)) (s.D (s.nw - 1 - r))).toArray 70 ∧ RI s i W4 r A) ?hIt2 ?hassign ?hbody ?hdone ?hstop
  case hG =>
    intro r A h
    refine ⟨by have := Blk.cell (Blk.below HN4.out h.1 (Blk.lt HN4.out)) 0; rw [this]; rfl, ?_⟩
    intro j hj
    exact wt_range (HD4.out.later h.1) hj
  case hR => rintro r A B _ h rfl; exact h
  case hRk => rintro r A B _ rfl; exact Keeps.refl _ _
  case hIt => exact fun r A B hT h => ⟨h.1.trans hT.below, h.2⟩
  case hIt' => exact fun r A B hT h => ⟨h.1.trans hT.below, h.2⟩
  case hIxt => exact fun c A B hT h => ⟨h.1, h.2.1.trans (hT.below.mono (by rw [HZ4.out]; have := HS4.out; omega)), hT.blk h.2.2⟩
  case h0 => exact fun A hA _ => ⟨hA, fun t ht => absurd ht (Nat.not_lt_zero _)⟩
  case hIt2 =>
    rintro r a A B hT ⟨g, h1, h2, h3, h4⟩
    exact ⟨g, h1, h2, hT.blk h3, h4.1.trans hT.below, h4.2⟩
  case hassign =>
    intro l r W K hr hI hK
    have HK := Lib.hid hK
    have HI := Lib.hid hI
    unfold bkE
    obtain ⟨k, hk⟩ : ∃ k, s.nw - 1 - r = k := ⟨_, rfl⟩
    have hl0 := laidBk W zW (wtC (s.A k) (s.D k)).toArray 70 (by rw [zW_size, List.size_toArray, wtC_len])
    have HIW : Hid ((Tryd.prog.info? 70).map (·.size) = some (wtC (s.A k) (s.D k)).toArray.size) := Lib.hid (by rw [List.size_toArray]; exact info_write)
    have HON : Hid ((wtC (s.A k) (s.D k)).toArray.all (·.oneCell') = true) := Lib.hid (all_oneCell_toArray (wtC_one _ _))
    rw [hk]
    have HKK := Lib.hid hk
    generalize hWL : wtC (s.A k) (s.D k) = WL at *
    have HWL := Lib.hid hWL
    obtain ⟨w2, hw2⟩ : ∃ x, (W.alloc (.cells zW 70)).setCells W.heap.size 0 WL.toArray.toList = x := ⟨_, rfl⟩
    rw [hw2] at hl0
    obtain ⟨g, hg⟩ : ∃ x, W.heap.size = x := ⟨_, rfl⟩
    have H2 := Lib.hid hl0
    have HTH := Lib.hid hl0.2.2
    rw [hg] at HTH hw2
    have HG := Lib.hid hg
    clear hK hI hr hk hWL hl0 HD4 HX4 HI4 HBW HN4
    refine region_wd (fun ⟨_, _, h⟩ => h) rfl ?_
    go_wp2_with (first
      | ((try rw [HG.out]); refine wpList_store_mid rfl 70 (.tmp 8) (.tmp 32) rfl g 0 WL.toArray rfl rfl HTH.out HIW.out HON.out ?_; rw [hw2]))
    refine HK.out _ _ H2.out.2.1 ⟨g, ?_, ?_, ?_, HI.out.1.trans (H2.out.2.1.mono HI.out.1.size), HI.out.2⟩
    · rw [HKK.out, HWL.out]
      (try rfl)
    · have := HI.out.1.size; rw [HZ4.out] at this; rw [← HG.out]; exact this
    · rw [HKK.out, HWL.out, ← HG.out]; exact H2.out.1
  case hbody =>
    rintro l r a' W hl hr ⟨g, rfl, hzg, hBG, hI⟩
    obtain ⟨k, hk⟩ : ∃ k, s.nw - 1 - r = k := ⟨_, rfl⟩
    rw [hk] at hBG ⊢
    obtain ⟨ka, hka⟩ : ∃ k', s.A k = k' := ⟨_, rfl⟩
    have ci : W.cell? ⟨b, 0, none⟩ = some (.int .i64 (i : Int)) := cell_below hI.1 (by rw [Blk.cell HI4.out]; rfl)
    have cg : W.cell? ⟨g, 0, none⟩ = some (.int .i64 (ka : Int)) := by rw [Blk.cell hBG]; unfold wtC; rw [hka]; rfl
    have hxb : Blk W xb (rowC 64 F).toArray 68 := Blk.below HX4.out hI.1 (Blk.lt HX4.out)
    have HRG : Hid (W.rangeAt g 1 (rowC 64 (s.D k))) := Lib.hid (fun j u hu => by
      have h9 : W.cell? ⟨g, 1 + j, none⟩ = (wtC (s.A k) (s.D k)).toArray[1 + j]? := Blk.cell hBG (1 + j)
      rw [h9, Nat.add_comm 1 j, List.getElem?_toArray]; exact hu)
    have HTH : Hid (W.there xb 0 (rowC 64 (s.D k)).toArray.size) := Lib.hid (Blk.thereAll hxb _ (by rw [List.size_toArray, List.size_toArray, rowC_len, rowC_len]; exact Nat.le_refl _))
    have HOW : Hid (Own xb W (W.setCells xb 0 (rowC 64 (s.D k)).toArray.toList)) := Lib.hid (Own.setCells (b := xb) _ 0 W)
    have HNX : Hid (Blk (W.setCells xb 0 (rowC 64 (s.D k)).toArray.toList) xb (rowC 64 (s.D k)).toArray 68) := Lib.hid (Blk.whole hxb (by rw [List.size_toArray, List.size_toArray, rowC_len, rowC_len]))
    have HI := Lib.hid hI
    have HXB := Lib.hid hxb
    have HKK := Lib.hid (show s.nw - 1 - r = k ∧ r < s.nw ∧ s.A k = ka from ⟨hk, hr, hka⟩)
    generalize hWC : wtC (s.A k) (s.D k) = WL at *
    clear hWC hI hxb hBG hzg hl hr hk hka HD4 HX4 HI4 HN4
    refine wpIn_block ?_
    refine wpIn_seq ?_
    refine region_wd (fun ⟨_, _, h⟩ => h) rfl ?_
    by_cases he : ka = i
    · have e1 : ((ka : Int) == (i : Int)) = true := by rw [he]; exact beq_self_eq_true _
      have e2 : decide ((ka : Int) = (i : Int)) = true := decide_eq_true (by rw [he])
      have e3 : (ka == i) = true := by rw [he]; exact beq_self_eq_true _
      have HE := Lib.hid he
      clear he
      go_wp2_with fail
      refine wpIn_cond_true rfl ?_
      refine wpIn_seq ?_
      refine region_wd (fun ⟨_, _, h⟩ => h) rfl ?_
      go_wp2_with (first
        | (refine wpList_load_mid rfl 68 (.tmp 37) rfl g 1 rfl (rowC 64 (s.D k)) _ HRG.out Tryd.underlying68 rfl info_sector ?_)
        | (refine wpList_store_mid rfl 68 (.tmp 6) (.tmp 38) rfl xb 0 (rowC 64 (s.D k)).toArray rfl rfl HTH.out (by rw [List.size_toArray]; exact info_sector) (all_oneCell_toArray (rowC_one _ _)) ?_))
      refine wpIn_exit ?_
      have hcur : curF s.S s.A s.D s.nw i = s.D k := by
        have h9 := curF_hit (S := s.S) (A := s.A) (D := s.D) (i := i) r s.nw HKK.out.2.1 HI.out.2 (by rw [HKK.out.1, HKK.out.2.2]; exact HE.out)
        rw [HKK.out.1] at h9; exact h9
      refine ⟨Keeps.of_own HOW.out HXB.out, rfl, ?_, ?_⟩
      · refine (HBW.out.trans (HI.out.1.mono ?_)).trans (HOW.out.below ?_ ?_)
        · rw [HZ4.out]; have := HS4.out; omega
        · have := HS4.out; omega
        · have := HI.out.1.size; have := HZ4.out; have := HS4.out; omega
      · rw [hcur]; exact HNX.out
    · have e1 : ((ka : Int) == (i : Int)) = false := beq_false_of_ne (by omega)
      have e2 : decide ((ka : Int) = (i : Int)) = false := decide_eq_false (by omega)
      have e3 : (ka == i) = false := beq_false_of_ne he
      have HE := Lib.hid he
      clear he
      go_wp2_with fail
      refine wpIn_cond_false rfl ?_
      refine wpIn_skip ?_
      refine ⟨Keeps.refl _ _, HI.out.1, ?_⟩
      intro t ht
      by_cases e : t < r
      · exact HI.out.2 t e
      · have e4 : t = r := by omega
        rw [e4, HKK.out.1, HKK.out.2.2]; exact HE.out
  case hdone =>
    intro D W hD hI hK
    have hF : RF s i b xb w W := ⟨HBW.out.trans (hI.1.mono (by rw [HZ4.out]; have := HS4.out; omega)), by rw [curF_none s.nw hI.2, HFF.out]; exact Blk.below HX4.out hI.1 (Blk.lt HX4.out)⟩
    clear hI
    have HF := Lib.hid hF
    have HD := Lib.hid hD
    have HKD := Lib.hid hK
    clear hF hD hK HD4 HX4 HI4 HN4
    go_wp2_with (go_at_call 35; refine (clone_any (some ⟨xb, 0, none⟩) 64 64 (curF s.S s.A s.D s.nw i) W ?cb (by decide) (fun e => by cases e)).mono ?_)
    case cb => exact Blk.bytes64 HF.out.2 (curF_lt (HDK.out.S8 i hi) s.nw (fun j hj => (HDK.out.D8 j hj).2))
    rintro e W5 ⟨od', cap', rfl, c1, c2, c3, c4, c5, c6⟩
    have HC := Lib.hid (show Bytes W5 od' 64 (curF s.S s.A s.D s.nw i) ∧ (od' = none → 64 = 0) ∧ 64 ≤ cap' ∧ cap' ≤ maxLen ∧ (∀ a, od' = some a → W.heap.size ≤ a.block) ∧ Below W.heap.size W W5 from ⟨c1, c2, c3, c4, c5, c6⟩)
    clear c1 c2 c3 c4 c5 c6
    go_wp2_with fail
    have hDlt : D < W.heap.size := lt_of_block HKD.out
    have hs4 := HS4.out
    have hD4 : z4 ≤ D := by have := HD.out; have := HZ4.out; omega
    have hK5 : W5.heap[D]? = some (.deferred (some [])) := (HC.out.2.2.2.2.2.block D hDlt).trans HKD.out
    have hO : Own D W5 (W5.putObj D (.deferred none)) := own_put W5 D _
    have h5 := HC.out.2.2.2.2.2.size
    have hfin : Below b w (W5.putObj D (.deferred none)) := (HF.out.1.trans (HC.out.2.2.2.2.2.mono (by omega))).trans (hO.below (by omega) (by omega))
    have hwb := HF.out.1
    refine ⟨by simp, .inl ⟨_, _, rfl, run_takeDeferred hK5, ?_⟩⟩
    refine ⟨_, results_tmp2 rfl _ _ _, hfin, .inr ⟨trivial, od', cap', rfl, ?_, HC.out.2.2.1, HC.out.2.2.2.1, ?_⟩⟩
    · intro a ha; have := HC.out.2.2.2.2.1 a ha; omega
    · exact HC.out.1.own hO (fun a ha _ e => by have := HC.out.2.2.2.2.1 a ha; omega)
  case hstop =>
    rintro D c W hD ⟨rfl, hF⟩ hK
    have HF := Lib.hid hF
    have HD := Lib.hid hD
    have HKD := Lib.hid hK
    clear hF hD hK HD4 HX4 HI4 HN4
    go_wp2_with (go_at_call 35; refine (clone_any (some ⟨xb, 0, none⟩) 64 64 (curF s.S s.A s.D s.nw i) W ?cb (by decide) (fun e => by cases e)).mono ?_)
    case cb => exact Blk.bytes64 HF.out.2 (curF_lt (HDK.out.S8 i hi) s.nw (fun j hj => (HDK.out.D8 j hj).2))
    rintro e W5 ⟨od', cap', rfl, c1, c2, c3, c4, c5, c6⟩
    have HC := Lib.hid (show Bytes W5 od' 64 (curF s.S s.A s.D s.nw i) ∧ (od' = none → 64 = 0) ∧ 64 ≤ cap' ∧ cap' ≤ maxLen ∧ (∀ a, od' = some a → W.heap.size ≤ a.block) ∧ Below W.heap.size W W5 from ⟨c1, c2, c3, c4, c5, c6⟩)
    clear c1 c2 c3 c4 c5 c6
    go_wp2_with fail
    have hDlt : D < W.heap.size := lt_of_block HKD.out
    have hs4 := HS4.out
    have hD4 : z4 ≤ D := by have := HD.out; have := HZ4.out; omega
    have hK5 : W5.heap[D]? = some (.deferred (some [])) := (HC.out.2.2.2.2.2.block D hDlt).trans HKD.out
    have hO : Own D W5 (W5.putObj D (.deferred none)) := own_put W5 D _
    have h5 := HC.out.2.2.2.2.2.size
    have hfin : Below b w (W5.putObj D (.deferred none)) := (HF.out.1.trans (HC.out.2.2.2.2.2.mono (by omega))).trans (hO.below (by omega) (by omega))
    have hwb := HF.out.1
    refine ⟨by simp, .inl ⟨_, _, rfl, run_takeDeferred hK5, ?_⟩⟩
    refine ⟨_, results_tmp2 rfl _ _ _, hfin, .inr ⟨trivial, od', cap', rfl, ?_, HC.out.2.2.1, HC.out.2.2.2.1, ?_⟩⟩
    · intro a ha; have := HC.out.2.2.2.2.1 a ha; omega
    · exact HC.out.1.own hO (fun a ha _ e => by have := HC.out.2.2.2.2.1 a ha; omega)
end Go.Proofs.YtcohllhmfghlfaaDoor
