/- A copy of leases; one put ahead of another one. -/
import Derived.Test.YtgfjlgaleddoaaaGreatDoorLe9
import Derived.Laws.CopyRow
import Derived.Laws.CopyOwn
import Derived.Lib.AppendZerosOnto
import Derived.Lib.Overlaps
namespace Go.Proofs.YtgfjlgaleddoaaaGreatDoor
set_option linter.unusedVariables false
set_option linter.unusedSimpArgs false
open Go.RowKit
theorem KO.empty {k : Nat} {T : TypeId} {w : World} {base g : Nat} (h : Blk w g #[] T) (hb : base ≤ g) (C : Nat → List Value) : KO k T w base (.slice (some ⟨g, 0, none⟩) 0 0) 0 C :=
  ⟨by rw [rws_zero]; simp, .inr ⟨g, 0, #[], rfl, hb, h, Nat.le_refl _, by unfold maxLen; omega, by simp, by rw [rws_zero]; simp⟩⟩
set_option maxRecDepth 100000 in
set_option maxHeartbeats 1000000 in
theorem lclone_any (oa : Option Addr) (n c : Nat) (X : Nat → LE) (w : World) (hX : CK 5 w oa n (leC X)) (hno : oa = none → n = 0 ∧ c = 0) (hn : n ≤ 100000) :
    Calls Tryz.prog 50 #[.slice oa n c] w fun e w' => ∃ v, e = .returned v ∧ KO 5 33 w' w.heap.size v n (leC X) ∧ Below w.heap.size w w' := by
  cases oa with
  | none =>
    obtain ⟨rfl, rfl⟩ := hno rfl
    have heq := Lib.run_eql_slice_nil (P := Tryz.prog) w 43 33 none 0 0 0 0 Tryz.underlying43
    clear hX hno hn
    go_enter Tryz.func50, Tryz.ntmps50
    go_wp2_with fail
    go_ret
    exact ⟨_, rfl, KO.nil _ _ _ _ _, Below.refl _ _⟩
  | some ad =>
    have heq := Lib.run_eql_slice_nil (P := Tryz.prog) w 43 33 (some ad) n c 0 0 Tryz.underlying43
    have HE := Lib.hid (KO.empty (k := 5) (Blk.new w #[] 33) (Nat.le_refl _) (leC X))
    have HA := Lib.hid (hX.later ((Below.refl w.heap.size w).alloc (Nat.le_refl _) (.cells #[] 33)))
    have HN := Lib.hid hn
    clear hX hno hn
    go_enter Tryz.func50, Tryz.ntmps50
    go_wp2_with (first | (refine app_KB KTp rfl (.tmp 5) (.tmp 6) rfl w.heap.size (.slice (some ⟨w.heap.size, 0, none⟩) 0 0) 0 n c (leC X) (leC X) (some ad) (w.alloc (.cells #[] 33)) rfl HE.out rfl HA.out (leC_pc X) (fun e => by cases e) (by have := HN.out; unfold maxLen; omega) (by have := HN.out; omega) (by simp) ?_; intro v2 w2 hk2 hb2 hg2 ho2; have HK2 := Lib.hid hk2; have HB2 := Lib.hid hb2; clear hk2 hb2 hg2 ho2; (try simp only [Act.put, zS])) | fail)
    go_ret
    refine ⟨v2, rfl, ?_, ((Below.refl _ _).alloc (Nat.le_refl _) (.cells #[] 33)).trans HB2.out⟩
    have h9 := HK2.out
    rw [Nat.zero_add] at h9
    exact h9.congr fun i hi => by unfold catC; rw [if_neg (by omega)]; rfl
/-- copy of q elements of k cells. -/
theorem run_copyK {k q : Nat} (w : World) (dT sT ty elem : TypeId) (g o dLen dCap : Nat) (a : Addr) (sLen sCap : Nat) (cur : Array Value) (t : TypeId) (cs : List Value)
    (hu : Tryz.prog.underlying dT = some (.slice elem)) (hs : (Tryz.prog.info? elem).map (·.size) = some k) (hg : w.heap[g]? = some (.cells cur t (0, 0))) (hq : Nat.min sLen dLen = q) (hl : cs.length = q * k)
    (hsrc : ∀ j v, cs[j]? = some v → w.cell? (a.add j) = some v) (hfit : o + cs.length ≤ cur.size) (h1 : ∀ v ∈ cs, v.oneCell' = true) :
    (Builtin.copy_ #[dT, sT] ty #[.slice (some ⟨g, o, none⟩) dLen dCap, .slice (some a) sLen sCap]).run Tryz.prog w = .ok (goInt q) (w.setRow g (cur.toList.take o ++ cs ++ cur.toList.drop (o + cs.length)).toArray) := by
  have hst := run_storeCells_at Tryz.prog g o t cs 0 cur w hg (by simpa using hfit) h1
  cases hi : Tryz.prog.info? elem with
  | none => simp [hi] at hs
  | some i =>
    have hi2 : i.size = k := by simpa [hi] using hs
    have hf := run_firstCells_some (P := Tryz.prog) (w := w) k q a sLen sCap cs hl hsrc
    simp [Builtin.copy_, run_underlying hu, Builtin.lenOf, sizeOf, typeInfo, hi, hi2, hq, hf, hst]
theorem wpList_copyK {k q : Nat} {w : World} {ops : Array Oper} {rest : List Oper} {o : Oper} {a : Act} {Q : Exit → Act → World → Prop} (hgd : o.guard = none) (d s : Operand) (dT sT : TypeId)
    (ho : o.op = .call { callee := .builtin .copy, args := #[d, s], argTypes := #[dT, sT] }) (elem : TypeId) (g f dLen dCap : Nat) (ad : Addr) (sLen sCap : Nat) (hd : a.eval d = .slice (some ⟨g, f, none⟩) dLen dCap) (hs : a.eval s = .slice (some ad) sLen sCap) (cur : Array Value) (t : TypeId) (cs : List Value)
    (hu : Tryz.prog.underlying dT = some (.slice elem)) (hz : (Tryz.prog.info? elem).map (·.size) = some k) (hg : w.heap[g]? = some (.cells cur t (0, 0))) (hq : Nat.min sLen dLen = q) (hl : cs.length = q * k)
    (hsrc : ∀ j v, cs[j]? = some v → w.cell? (ad.add j) = some v) (hfit : f + cs.length ≤ cur.size) (h1 : ∀ v ∈ cs, v.oneCell' = true)
    (h : wpList Tryz.prog ops Q rest (a.put o.dst (goInt q)) (w.setRow g (cur.toList.take f ++ cs ++ cur.toList.drop (f + cs.length)).toArray)) : wpList Tryz.prog ops Q (o :: rest) a w := by
  refine wpList_plain hgd fun K hK => ?_
  have hr := run_copyK w dT sT o.type elem g f dLen dCap ad sLen sCap cur t cs hu hz hg hq hl hsrc hfit h1
  unfold Oper.wp execOp
  simp only [ho, resolve, invoke, builtin, Sem.run_bind, Sem.run_pure, Result.andThen_ok, List.map_toArray, List.map_cons, List.map_nil, hd, hs, hr]
  exact hK _ _ h
theorem step_copyK {k q : Nat} {w : World} {ops : Array Oper} {o : Oper} {a : Act} {K : Act → World → Prop} {Q : Exit → Act → World → Prop} {E : Prop} (hw : Region.wanted o (yielded ops a.tmps) = true) (d s : Operand) (dT sT : TypeId)
    (ho : o.op = .call { callee := .builtin .copy, args := #[d, s], argTypes := #[dT, sT] }) (elem : TypeId) (g f dLen dCap : Nat) (ad : Addr) (sLen sCap : Nat) (hd : a.eval d = .slice (some ⟨g, f, none⟩) dLen dCap) (hs : a.eval s = .slice (some ad) sLen sCap) (cur : Array Value) (t : TypeId) (cs : List Value)
    (hu : Tryz.prog.underlying dT = some (.slice elem)) (hz : (Tryz.prog.info? elem).map (·.size) = some k) (hg : w.heap[g]? = some (.cells cur t (0, 0))) (hq : Nat.min sLen dLen = q) (hl : cs.length = q * k)
    (hsrc : ∀ j v, cs[j]? = some v → w.cell? (ad.add j) = some v) (hfit : f + cs.length ≤ cur.size) (h1 : ∀ v ∈ cs, v.oneCell' = true)
    (h : K (a.put o.dst (goInt q)) (w.setRow g (cur.toList.take f ++ cs ++ cur.toList.drop (f + cs.length)).toArray)) : if Region.wanted o (yielded ops a.tmps) = true then Oper.wp Tryz.prog o a w K Q else E := by
  rw [if_pos hw]
  have hr := run_copyK w dT sT o.type elem g f dLen dCap ad sLen sCap cur t cs hu hz hg hq hl hsrc hfit h1
  unfold Oper.wp execOp
  simp only [ho, resolve, invoke, builtin, Sem.run_bind, Sem.run_pure, Result.andThen_ok, List.map_toArray, List.map_cons, List.map_nil, hd, hs, hr]
  exact h
theorem wpList_grow0 {w : World} {ops : Array Oper} {rest : List Oper} {o : Oper} {a : Act} {Q : Exit → Act → World → Prop} (hgd : o.guard = none) (d s : Operand)
    (ho : o.op = .call { callee := .builtin .append, args := #[d, s], argTypes := #[43, 3] }) (ad : Addr) (hd : a.eval d = .slice (some ad) 0 1) (hs : a.eval s = .int .i64 2)
    (h : ∀ cap (cur : Array Value), 2 ≤ cap → cap ≤ maxLen → 10 ≤ cur.size → wpList Tryz.prog ops Q rest (a.put o.dst (.slice (some ⟨w.heap.size, 0, none⟩) 2 cap)) (w.drew.alloc (.cells cur 33))) : wpList Tryz.prog ops Q (o :: rest) a w := by
  refine wpList_plain hgd fun K hK => ?_
  obtain ⟨i0, hi, hz0, hz1, hz2⟩ := parts3 KTp.I
  have hr := Lib.run_append_grow_zeros (P := Tryz.prog) w 43 3 o.type 33 i0 zeroLE .i64 .i64 Tryz.underlying43 Tryz.underlying3 hi hz0 (some ad) 0 1 [] (by simp [Builtin.firstCells, loadCells, loadCellsFrom]) 2 (by decide) (by rw [hz1]; decide) (by decide) (by decide) (by rw [hz2]; decide) (by rw [hz2]; decide)
  have hr2 : (Builtin.append_ #[43, 3] o.type #[.slice (some ad) 0 1, .int .i64 2]).run Tryz.prog w = _ := hr
  unfold Oper.wp execOp
  simp only [ho, resolve, invoke, builtin, Sem.run_bind, Sem.run_pure, Result.andThen_ok, List.map_toArray, List.map_cons, List.map_nil, hd, hs, hr2]
  refine hK _ _ (h (grownCap w (0 + 2) 1 33) _ (grownCap_ge w (0 + 2) 1 _) (grownCap_le_maxLen w (0 + 2) 1 _ (by unfold maxLen; omega)) ?_)
  simp [Builtin.zeroCells, zeroLE, Value.cells]
def X2 (x y : LE) : Nat → LE := fun i => if i = 0 then x else y
theorem ck2 {w : World} {g : Nat} {C : Array Value} {T : TypeId} {x y : LE} (h : Blk w g C T) (h0 : ∀ j, j < 5 → C[j]? = (leL x)[j]?) (h1 : ∀ j, j < 5 → C[5 + j]? = (leL y)[j]?) : CK 5 w (some ⟨g, 0, none⟩) 2 (leC (X2 x y)) := fun i hi => ⟨g, 0, rfl, fun j v hv => by
  have hj : j < 5 := (List.getElem?_eq_some_iff.1 hv).1
  rw [Blk.cell h]
  rcases (show i = 0 ∨ i = 1 by omega) with rfl | rfl
  · rw [show 0 + 0 * 5 + j = j by omega, h0 j hj]; exact hv
  · rw [show 0 + 1 * 5 + j = 5 + j by omega, h1 j hj]; exact hv⟩
theorem spl {cur cs : List Value} {f j : Nat} (hf : f + cs.length ≤ cur.length) : (cur.take f ++ cs ++ cur.drop (f + cs.length)).toArray[j]? = if j < f then cur[j]? else if j < f + cs.length then cs[j - f]? else cur[j]? := by
  rw [List.getElem?_toArray]
  have hl : (cur.take f).length = f := by simp; omega
  by_cases h1 : j < f
  · rw [if_pos h1, List.append_assoc, List.getElem?_append_left (by omega), List.getElem?_take, if_pos h1]
  · rw [if_neg h1]
    by_cases h2 : j < f + cs.length
    · rw [if_pos h2, List.getElem?_append_left (by simp; omega), List.getElem?_append_right (by omega), hl]
    · rw [if_neg h2, List.getElem?_append_right (by simp; omega), List.getElem?_drop]
      congr 1
      simp; omega
theorem spl_size {cur cs : List Value} {f : Nat} (hf : f + cs.length ≤ cur.length) : (cur.take f ++ cs ++ cur.drop (f + cs.length)).toArray.size = cur.length := by simp; omega
theorem Own.setRow {g : Nat} (w : World) (cs : Array Value) : Own g w (w.setRow g cs) := ⟨rfl, rfl, rfl, by simp, fun k _ hn => setRow_other w g k cs hn⟩
theorem Blk.setRow {w : World} {g : Nat} {C : Array Value} {t : TypeId} (h : Blk w g C t) (D : Array Value) : Blk (w.setRow g D) g D t := setRow_heap w g C D t (0, 0) h
theorem Blk.shape {w : World} {b : Nat} {C : Array Value} {T : TypeId} (h : Blk w b C T) : w.shape? b = some (T, C.size) := by unfold World.shape?; rw [show w.heap[b]? = some (.cells C T (0, 0)) from h]
theorem run_ol {w : World} {g gv cap : Nat} {C D : Array Value} (hV : Blk w gv D 33) (hG : Blk w g C 33) (hne : gv ≠ g) (h0 : C.size ≠ 0) : (callFunc 80 #[.slice (some ⟨gv, 0, none⟩) 1 1, .slice (some ⟨g, 5, none⟩) 1 (cap - 1)]).run Tryz.prog w = .ok (.value (.bool false)) w := by
  rw [run_callFunc_extern Tryz.func80 (by kernel_rfl) (by kernel_rfl) (by kernel_rfl) (e := Extern.SlicesOverlaps.overlaps #[43, 43] #[4]) (by kernel_rfl),
    Lib.run_overlaps_apart w 43 4 33 Tryz.underlying43 5 Tryz.sizeOf33 ⟨gv, 0, none⟩ ⟨g, 5, none⟩ 1 1 1 (cap - 1) hne _ _ _ _ hV.shape hG.shape h0 (Blk.free hV _) (Blk.free hV _)]
  rfl
def InsR (x y : LE) (base : Nat) (w : World) (e : Ending) (w' : World) : Prop := ∃ g' c', e = .returned (.slice (some ⟨g', 0, none⟩) 2 c') ∧ CK 5 w' (some ⟨g', 0, none⟩) 2 (leC (X2 x y)) ∧ Below base w w' ∧ 2 ≤ c' ∧ c' ≤ maxLen
set_option maxRecDepth 100000 in
set_option maxHeartbeats 2000000 in
theorem insert_full (g gv base : Nat) (x y : LE) (w : World) (cur : Array Value) (hG : Blk w g cur 33) (hY : ∀ j, j < 5 → cur[j]? = (leL y)[j]?) (hV : Blk w gv (leL x).toArray 33) (hb : base ≤ w.heap.size) :
    Calls Tryz.prog 49 #[.slice (some ⟨g, 0, none⟩) 1 1, .int .i64 0, .slice (some ⟨gv, 0, none⟩) 1 1] w (InsR x y base w) := by
  have HG := Lib.hid (And.intro hG hY)
  have HV := Lib.hid hV
  have HBB := Lib.hid hb
  clear hG hY hV hb
  go_enter Tryz.func49, Tryz.ntmps49
  go_upto_region 10 with (first | (refine wpList_grow0 rfl (.tmp 34) (.tmp 39) rfl ⟨g, 0, none⟩ rfl (by first | rfl | go_num) ?_; intro cap2 D0 hc2 hcm hd0; (try simp only [Act.put, zS])) | fail)
  obtain ⟨g2, hg2⟩ : ∃ q, w.heap.size = q := ⟨_, rfl⟩
  obtain ⟨W1, hW1⟩ : ∃ y0, w.drew.alloc (.cells D0 33) = y0 := ⟨_, rfl⟩
  have hb1 : Below w.heap.size w W1 := by rw [← hW1]; exact (Below.refl _ _).drew.alloc (Nat.le_refl _) _
  have hB0 : Blk W1 g2 D0 33 := by rw [← hW1, ← hg2]; exact Blk.new w.drew D0 33
  obtain ⟨D1, hD1⟩ : ∃ D, (D0.toList.take 0 ++ leL x ++ D0.toList.drop (0 + (leL x).length)).toArray = D := ⟨_, rfl⟩
  obtain ⟨W2, hW2⟩ : ∃ y0, W1.setRow g2 D1 = y0 := ⟨_, rfl⟩
  have hO2 : Own g2 W1 W2 := by rw [← hW2]; exact Own.setRow _ _
  have hB1 : Blk W2 g2 D1 33 := by rw [← hW2]; exact Blk.setRow hB0 _
  have hV1 : Blk W1 gv (leL x).toArray 33 := Blk.below HV.out hb1 (Blk.lt HV.out)
  have hG1 : Blk W1 g cur 33 := Blk.below HG.out.1 hb1 (Blk.lt HG.out.1)
  have hgg : g < g2 ∧ gv < g2 := by rw [← hg2]; exact ⟨Blk.lt HG.out.1, Blk.lt HV.out⟩
  have hG2 : Blk W2 g cur 33 := hO2.blk hG1 (by omega)
  have hs1 : D1.size = D0.size := by rw [← hD1, spl_size (by simp [leL]; omega)]; simp
  have hc1 : ∀ j, D1[j]? = if j < 0 then D0[j]? else if j < 0 + 5 then (leL x)[j - 0]? else D0[j]? := fun j => by rw [← hD1, spl (by simp [leL]; omega)]; simp [leL]
  have HSX : Hid (∀ j v, (leL x)[j]? = some v → W1.cell? ((⟨gv, 0, none⟩ : Addr).add j) = some v) := Lib.hid fun j v hv => by rw [Addr.add_mid, Nat.zero_add, Blk.cell hV1, List.getElem?_toArray]; exact hv
  have HSY : Hid (∀ j v, (leL y)[j]? = some v → W2.cell? ((⟨g, 0, none⟩ : Addr).add j) = some v) := Lib.hid fun j v hv => by
    have hj : j < 5 := (List.getElem?_eq_some_iff.1 hv).1
    rw [Addr.add_mid, Nat.zero_add, Blk.cell hG2, HG.out.2 j hj]; exact hv
  have HB0 := Lib.hid hB0
  have HD1 := Lib.hid hB1
  have HZ0 := Lib.hid hd0
  have HZ1 : Hid (10 ≤ D1.size) := Lib.hid (by omega)
  obtain ⟨D2, hD2⟩ : ∃ D, (D1.toList.take 5 ++ leL y ++ D1.toList.drop (5 + (leL y).length)).toArray = D := ⟨_, rfl⟩
  obtain ⟨W3, hW3⟩ : ∃ y0, W2.drew.setRow g2 D2 = y0 := ⟨_, rfl⟩
  have hO3 : Own g2 W2.drew W3 := by rw [← hW3]; exact Own.setRow _ _
  have hB3 : Blk W3 g2 D2 33 := by rw [← hW3]; exact Blk.setRow hB1.drew _
  have hc2' : ∀ j, D2[j]? = if j < 5 then D1[j]? else if j < 5 + 5 then (leL y)[j - 5]? else D1[j]? := fun j => by rw [← hD2, spl (by simp [leL]; omega)]; simp [leL]
  have HFIN : Hid (InsR x y base w (.returned (.slice (some ⟨g2, 0, none⟩) 2 cap2)) W3) := Lib.hid (by
    refine ⟨g2, cap2, rfl, ck2 hB3 (fun j hj => ?_) (fun j hj => ?_), ?_, hc2, hcm⟩
    · rw [hc2', if_pos hj, hc1, if_neg (by omega), if_pos (by omega)]; rfl
    · rw [hc2', if_neg (by omega), if_pos (by omega)]; congr 1; omega
    · have h1 : Below base w W1 := hb1.mono HBB.out
      have h2 : Below base W1 W2 := hO2.below (by have := HBB.out; omega) (Nat.le_trans HBB.out hb1.size)
      have h3 : Below base W2 W2.drew := (Below.refl _ _).drew
      have h4 : Below base W2.drew W3 := hO3.below (by have := HBB.out; omega) (Nat.le_trans (Nat.le_trans HBB.out hb1.size) h2.size)
      exact ((h1.trans h2).trans h3).trans h4)
  have hcp : (cap2 : Int) ≤ 9223372036854775807 := by unfold maxLen at hcm; omega
  have hcq : (2 : Int) ≤ (cap2 : Int) := by omega
  have hcn : ¬ cap2 = 1 := by omega
  have hw1 : IntKind.i64.wrap 1 = 1 := by decide
  rw [hW1, hg2]
  clear hb1 hB0 hO2 hB1 hV1 hG1 hgg hG2 hs1 hc1 hd0 hO3 hB3 hc2' hcm
  go_upto_region 11 with (first | (refine wpList_copyK (k := 5) (q := 1) rfl (.tmp 43) (.tmp 44) 43 43 rfl 33 g2 0 2 cap2 ⟨gv, 0, none⟩ 1 1 rfl rfl D0 33 (leL x) Tryz.underlying43 info_le HB0.out rfl rfl HSX.out (by have := HZ0.out; simp [leL]; omega) (leL_one _) ?_; rw [hD1, hW2]; (try simp only [Act.put, zS])) | fail)
  refine wp_region_held_drew (S := (fun _ => True)) (by kernel_rfl) ?_ (fun hHeld => ?_)
  · (try dsimp only)
    all_goals trivial
  refine wT 0 ?_ rfl ?_ ?_
  rotate_left
  · intro wS hSw
    (try dsimp only at hSw)
    go_simp
    (try with_reducible rfl)
  (try simp only [Act.put, zS])
  refine wT 1 ?_ rfl ?_ ?_
  rotate_left
  · intro wS hSw
    (try dsimp only at hSw)
    go_simp
    (try with_reducible rfl)
  (try simp only [Act.put, zS])
  refine wT 2 ?_ rfl ?_ ?_
  rotate_left
  · intro wS hSw
    (try dsimp only at hSw)
    go_simp
    (try with_reducible rfl)
  (try simp only [Act.put, zS])
  refine wT 3 (.int .i64 1) rfl ?_ ?_
  · intro wS hSw
    (go_simp; first | done | rfl | decide)
  (try simp only [Act.put, zS])
  refine wT 4 (.slice (some ⟨g2, 5, none⟩) 1 (cap2 - 1)) rfl ?_ ?_
  · intro wS hSw
    (go_simp; first | done | (simp [hw1, hcn]; done) | rfl)
  (try simp only [Act.put, zS])
  refine wT 5 ?_ rfl ?_ ?_
  rotate_left
  · intro wS hSw
    (try dsimp only at hSw)
    go_simp
    (try with_reducible rfl)
  (try simp only [Act.put, zS])
  refine wT 6 ?_ rfl ?_ ?_
  rotate_left
  · intro wS hSw
    (try dsimp only at hSw)
    go_simp
    (try with_reducible rfl)
  (try simp only [Act.put, zS])
  refine wT 7 ?_ rfl ?_ ?_
  rotate_left
  · intro wS hSw
    (try dsimp only at hSw)
    go_simp
    (try with_reducible rfl)
  (try simp only [Act.put, zS])
  refine wR [8] ?_
  refine aN rfl fun K hK => ?_
  (refine step_copyK (k := 5) (q := 1) rfl (.tmp 50) (.tmp 53) 43 43 rfl 33 g2 5 1 (cap2 - 1) ⟨g, 0, none⟩ 1 1 (by first | rfl | go_num) (by first | rfl | go_num) D1 33 (leL y) Tryz.underlying43 info_le HD1.out rfl rfl HSY.out (by have := HZ1.out; simp [leL]; omega) (leL_one _) ?_; skip)
  refine hK.out _ _ ?_ (fun hHeld => ?_)
  · (try dsimp only)
    all_goals trivial
  clear hK K
  (try simp only [Act.put, zS])
  refine wpAnyH_done (by kernel_rfl) ?_ _
  (try rw [hD2, hW3])
  go_wp2_with fail
  go_ret
  exact HFIN.out
end Go.Proofs.YtgfjlgaleddoaaaGreatDoor
