/- sharecode.Parse. -/
import Derived.Test.YtmhofofidmbgfaaDoorSc7
import Derived.Test.YtmhofofidmbgfaaDoorSc5
namespace Go.Proofs.YtmhofofidmbgfaaDoor
set_option linter.unusedVariables false
set_option linter.unusedSimpArgs false
open Go.RowKit

/-- A function that ranges over one, from its body. -/
theorem calls_marks {P : Program} {f : FuncId} {fn : Func} {c : Code} {args : Array Value} {w : World} {R : Ending → World → Prop} (hf : P.funcs[f]? = some fn) (hb : fn.body = some c)
    (h : c.wp P (bodyPostM Fence.wide 0 P fn R) { tmps := args ++ Array.replicate (fn.ntmps - args.size) undef, defers := [] } w) : Calls P f args w R :=
  (callsIn_wide (n := 0)).1 (callsIn_of_wp_marks hf hb trivial ((wpIn_wide (n := 0)).2 h) rfl)

theorem Turned.grow {B base n : Nat} {A A' : World} {v : Value} {f : Nat → Nat} (h : Turned B A A') (hG : Grow A base v n f) : Grow A' base v n f := by
  obtain ⟨hl, h1 | ⟨g, cap, cur, h1, h2, h3, h4⟩⟩ := hG
  · exact ⟨hl, .inl h1⟩
  · exact ⟨hl, .inr ⟨g, cap, cur, h1, h2, h.block h3, h4⟩⟩

def unhF (t : ByteArray) : Nat → Nat := fun i => 16 * digN (byteF t (2 * i)) + digN (byteF t (2 * i + 1))
structure TxtOk (t : ByteArray) : Prop where
  even : t.size % 2 = 0
  hi : t.size ≤ 144
  dig : ∀ i, i < t.size / 2 → digN (byteF t (2 * i)) < 16 ∧ digN (byteF t (2 * i + 1)) < 16
def PGood (t : ByteArray) : Prop := TxtOk t ∧ IsEnc (t.size / 2) (unhF t)
def ParseR (t : ByteArray) (w : World) (e : Ending) (w' : World) : Prop := Below w.heap.size w w' ∧
  ((PGood t ∧ ∃ g c, e = .returned (.tuple #[.agg #[.int .u8 (unhF t 6 : Nat), .int .u32 (genOf (unhF t) : Nat), .slice (some ⟨g, 0, none⟩) (t.size / 2 - 8) c], .nilIface]) ∧ w.heap.size ≤ g ∧ t.size / 2 - 8 ≤ c ∧ c ≤ maxLen ∧ Bytes w' (some ⟨g, 0, none⟩) (t.size / 2 - 8) (fun k => unhF t (8 + k))) ∨
   (¬ PGood t ∧ e = .returned (.tuple #[zSh, eN])))

theorem toldI_ok {t : ByteArray} {i : Nat} (h : ¬ toldI t i < 0) : (digN (byteF t (2 * i)) < 16 ∧ digN (byteF t (2 * i + 1)) < 16) ∧ toldI t i = (unhF t i : Int) := by
  unfold toldI at *
  split at h
  · rename_i hc; rw [if_pos hc]; exact ⟨hc, rfl⟩
  · exact absurd (by decide) h
theorem toldI_bad {t : ByteArray} {i : Nat} (h : toldI t i < 0) : ¬ (digN (byteF t (2 * i)) < 16 ∧ digN (byteF t (2 * i + 1)) < 16) := fun hc => by
  unfold toldI at h; rw [if_pos hc] at h; omega

/-- Between two rounds: the function's four variables; what has come. -/
structure PSt (t : ByteArray) (b : Nat) (w : World) (i : Nat) (A : World) : Prop where
  sh : Blk A b #[.int .u8 0, .int .u32 0, .slice none 0 0] 52
  er : Blk A (b + 1) #[.nilIface] 31
  bx : Blk A (b + 3) #[.string t] 9
  row : ∃ v, Blk A (b + 2) #[v] 22 ∧ Grow A (b + 4) v i (unhF t)
  bel : Below b w A
  ok : ∀ k, k < i → digN (byteF t (2 * k)) < 16 ∧ digN (byteF t (2 * k + 1)) < 16
theorem PSt.drew {t : ByteArray} {b i : Nat} {w A : World} (h : PSt t b w i A) : PSt t b w i A.drew :=
  ⟨h.sh, h.er, h.bx, h.row, h.bel.drew, h.ok⟩
theorem PSt.turned {t : ByteArray} {b i B : Nat} {w A A' : World} (h : PSt t b w i A) (hT : Turned B A A') (hB : b ≤ B) : PSt t b w i A' := by
  obtain ⟨v, h1, h2⟩ := h.row
  exact ⟨hT.blk h.sh, hT.blk h.er, hT.blk h.bx, ⟨v, hT.blk h1, hT.grow h2⟩, h.bel.trans (hT.below.mono hB), h.ok⟩
/-- A round was left: a digit is none. -/
structure PLeft (t : ByteArray) (b : Nat) (w : World) (A : World) : Prop where
  sh : Blk A b #[.int .u8 0, .int .u32 0, .slice none 0 0] 52
  er : Blk A (b + 1) #[eN] 31
  bel : Below b w A
  bad : ∃ k, k < t.size / 2 ∧ ¬ (digN (byteF t (2 * k)) < 16 ∧ digN (byteF t (2 * k + 1)) < 16)

theorem keeps_app {B base n : Nat} {W W1 W2 : World} {v : Value} {f : Nat → Nat} (hG : Grow W base v n f) (hb : Below W.heap.size W W1) (hg : W1.grownBy W2 v.ownBlock) : Keeps B W W2 := by
  refine ⟨Nat.le_trans hb.size hg.size, fun k o _ hk ho => ?_⟩
  have hlt := lt_of_block hk
  refine (hg.block k (Nat.lt_of_lt_of_le hlt hb.size) (fun e => ?_)).trans ((hb.block k hlt).trans hk)
  rcases hG.2 with ⟨rfl, _⟩ | ⟨g, cap, cur, rfl, _, h3, _⟩
  · cases e
  · cases e
    rw [h3] at hk; cases hk; cases ho
theorem own_put (W : World) (D : Nat) (o : Obj) : Own D W (W.putObj D o) := ⟨rfl, rfl, rfl, by simp, fun k _ hn => World.putObj_heap_other hn⟩
theorem res_cells {P : Program} {fn : Func} {p q : Tmp} {ty ty2 : TypeId} (h : fn.results = #[.cell p ty, .cell q ty2]) (tmps : Array Value) (w : World) (g g2 : Nat) (t : TypeId) (cs : Array Value) (v : Value) (fr : Nat × Nat) (d : TypeDesc)
    (hp : tmps.getD p undef = .pointer (some ⟨g, 0, none⟩)) (hg : w.heap[g]? = some (.cells cs t fr))
    (hu : P.underlying ty = some d) (hd : (match d with | .struct _ | .array _ _ => true | _ => false) = true) (hi : (P.info? ty).map (·.size) = some cs.size)
    (hq : tmps.getD q undef = .pointer (some ⟨g2, 0, none⟩)) (hl : (loadVar ty2 ⟨g2, 0, none⟩).run P w = .ok v w) :
    (results fn tmps).run P w = .ok (.tuple #[.agg cs, v]) w := by
  have hp' : tmps[p]?.getD undef = .pointer (some ⟨g, 0, none⟩) := by simpa using hp
  have hq' : tmps[q]?.getD undef = .pointer (some ⟨g2, 0, none⟩) := by simpa using hq
  simp [results, h, hp', hq', asAddr, run_loadVar_row w g t ty cs fr d hg hu hd hi, hl]
theorem load_err {w : World} {g : Nat} {v : Value} (h : Blk w g #[v] 31) : (loadVar 31 ⟨g, 0, none⟩).run Tryd.prog w = .ok v w := by
  have hc : w.cell? ⟨g, 0, none⟩ = some v := by rw [Blk.cell h]; rfl
  simp [loadVar, isAgg, underlying, Tryd.underlying31, hc, Result.andThen]

set_option maxHeartbeats 8000000 in
set_option maxRecDepth 100000 in
theorem parse_any (t : ByteArray) (w : World) (hs : t.size < 1000000000) : Calls Tryd.prog 33 #[.string t] w (ParseR t w) := by
  obtain ⟨b, hb⟩ : ∃ y, w.heap.size = y := ⟨_, rfl⟩
  have hz := zsh3_run
  have hbad : ¬ PGood t → ParseR t w (.returned (.tuple #[.agg #[.int .u8 0, .int .u32 0, .slice none 0 0], .iface 81 (.int .i64 4)])) ((w.alloc (.cells #[.int .u8 0, .int .u32 0, .slice none 0 0] 52)).alloc (.cells #[.iface 81 (.int .i64 4)] 31)) := fun h =>
    ⟨((Below.refl _ _).alloc (Nat.le_refl _) _).alloc (by simp) _, .inr ⟨h, rfl⟩⟩
  have hres : ∀ (tmps : Array Value), tmps.getD 2 undef = .pointer (some ⟨b, 0, none⟩) → tmps.getD 3 undef = .pointer (some ⟨b + 1, 0, none⟩) → (results Tryd.f33 tmps).run Tryd.prog ((w.alloc (.cells #[.int .u8 0, .int .u32 0, .slice none 0 0] 52)).alloc (.cells #[.iface 81 (.int .i64 4)] 31)) = .ok (.tuple #[.agg #[.int .u8 0, .int .u32 0, .slice none 0 0], .iface 81 (.int .i64 4)]) ((w.alloc (.cells #[.int .u8 0, .int .u32 0, .slice none 0 0] 52)).alloc (.cells #[.iface 81 (.int .i64 4)] 31)) := fun tmps h2 h3 =>
    res_cells Tryd.results33 tmps _ b (b + 1) 52 #[.int .u8 0, .int .u32 0, .slice none 0 0] _ (0, 0) _ h2 (by rw [← hb]; exact (Blk.new w _ _).alloc _) Tryd.underlying52 rfl info_sh3 h3 (load_err (by rw [← hb]; simpa using Blk.new (w.alloc _) #[.iface 81 (.int .i64 4)] 31))
  have HBAD := Lib.hid hbad
  have HRES := Lib.hid hres
  clear hbad hres
  by_cases he : t.size % 2 = 0
  rotate_left
  · have e1 : (t.size : Int) % 2 = 1 := by omega
    have hng : ¬ PGood t := fun h => he h.1.even
    refine calls_marks Tryd.func33 rfl ?_
    simp only [Tryd.ntmps33, List.size_toArray, List.length_cons, List.length_nil, Nat.reduceAdd, Nat.reduceSub, Array.replicate_succ, Array.replicate_zero, List.push_toArray, List.append_toArray, List.nil_append, List.cons_append]
    go_wp2_with fail
    exact ⟨_, HRES.out _ rfl rfl, HBAD.out hng⟩
  by_cases hl : t.size ≤ 144
  rotate_left
  · have e1 : (t.size : Int) % 2 = 0 := by omega
    have e2 : (144 : Int) < (t.size : Int) := by omega
    have hng : ¬ PGood t := fun h => hl h.1.hi
    refine calls_marks Tryd.func33 rfl ?_
    simp only [Tryd.ntmps33, List.size_toArray, List.length_cons, List.length_nil, Nat.reduceAdd, Nat.reduceSub, Array.replicate_succ, Array.replicate_zero, List.push_toArray, List.append_toArray, List.nil_append, List.cons_append]
    go_wp2_with fail
    exact ⟨_, HRES.out _ rfl rfl, HBAD.out hng⟩
  have e1 : (t.size : Int) % 2 = 0 := by omega
  have e2 : decide ((144 : Int) < (t.size : Int)) = false := decide_eq_false (by omega)
  have HT := Lib.hid (show t.size % 2 = 0 ∧ t.size ≤ 144 from ⟨he, hl⟩)
  refine calls_marks Tryd.func33 rfl ?_
  simp only [Tryd.ntmps33, List.size_toArray, List.length_cons, List.length_nil, Nat.reduceAdd, Nat.reduceSub, Array.replicate_succ, Array.replicate_zero, List.push_toArray, List.append_toArray, List.nil_append, List.cons_append]
  clear he hl hs HRES HBAD
  go_wp2_with (go_at_call 51; refine (pairs_any t _).mono ?_; rintro e w' ⟨rfl, rfl⟩)
  obtain ⟨W4, hW4⟩ : ∃ y, (((w.alloc (.cells #[.int .u8 0, .int .u32 0, .slice none 0 0] 52)).alloc (.cells #[.nilIface] 31)).alloc (.cells #[.slice none 0 0] 22)).alloc (.cells #[.string t] 9) = y := ⟨_, rfl⟩
  rw [hW4]
  have hZ4 : W4.heap.size = b + 4 := by rw [← hW4, ← hb]; simp
  have hP4 : PSt t b w 0 W4 := by
    have hb4 : Below b w W4 := by rw [← hW4, ← hb]; exact ((((Below.refl _ _).alloc (Nat.le_refl _) _).alloc (by simp) _).alloc (by simp; omega) _).alloc (by simp; omega) _
    refine ⟨?_, ?_, ?_, ⟨.slice none 0 0, ?_, Grow.nil _ _ _⟩, hb4, fun k hk => by omega⟩
    · rw [← hW4, ← hb]; exact (((Blk.new w _ _).alloc _).alloc _).alloc _
    · rw [← hW4, ← hb]; simpa using ((Blk.new (w.alloc (.cells #[.int .u8 0, .int .u32 0, .slice none 0 0] 52)) #[.nilIface] 31).alloc _).alloc _
    · rw [← hW4, ← hb]; simpa using (Blk.new (((w.alloc (.cells #[.int .u8 0, .int .u32 0, .slice none 0 0] 52)).alloc (.cells #[.nilIface] 31)).alloc (.cells #[.slice none 0 0] 22)) #[.string t] 9)
    · rw [← hW4, ← hb]; simpa using ((Blk.new ((w.alloc (.cells #[.int .u8 0, .int .u32 0, .slice none 0 0] 52)).alloc (.cells #[.nilIface] 31)) #[.slice none 0 0] 22).alloc _)
  clear hW4
  refine wp_rangeR (gf := 67) (lb := #[.pointer (some ⟨b + 3, 0, none⟩)]) (N := t.size / 2) rfl (enters_of Tryd.func67 (by kernel_rfl) rfl) (pairs_seq t (b + 3) _ rfl (by have := HT.out.2; omega)) (fun _ => rfl)
    (PSt t b w) (PSt t b w) (fun c A => c = .ret ∧ PLeft t b w A) ?hG (fun i A h => h.drew) (fun c A h => ⟨h.1, h.2.sh, h.2.er, h.2.bel.drew, h.2.bad⟩) ?hR ?hRk (fun i A B hT h => h.turned hT (by omega)) (fun i A B hT h => h.turned hT (by omega)) ?hIxt ?h0
    (fun i => { tmps := #[.string t, undef, .pointer (some ⟨b, 0, none⟩), .pointer (some ⟨b + 1, 0, none⟩), .pointer (some ⟨b + 1 + 1, 0, none⟩), .int .i64 (toldI t i), .string t, .int .i64 (t.size : Int), .int .i64 0, .bool false, .bool false, .string t, .int .i64 (t.size : Int), .bool false, .bool false, undef, undef, .string t, .func (.func 67) #[] #[.pointer (some ⟨b + 1 + 1 + 1, 0, none⟩)], .int .i64 (toldI t i), undef, undef, undef, undef, undef, undef, undef, undef, undef, undef, undef, undef, undef], defers := [] }) ?assign ?body ?done ?stop
  case hG => exact fun i A h => by rw [Blk.cell h.bx]; rfl
  case hR => rintro i A B _ h rfl; exact h.drew
  case hRk => rintro i A B _ rfl; exact Keeps.of_below ⟨rfl, rfl, rfl, Nat.le_refl _, fun _ _ => rfl⟩
  case hIxt => exact fun c A B hT h => ⟨h.1, hT.blk h.2.sh, hT.blk h.2.er, h.2.bel.trans (hT.below.mono (by omega)), h.2.bad⟩
  case h0 =>
    intro A hA _
    obtain ⟨v, h1, h2⟩ := hP4.row
    exact ⟨Blk.below hP4.sh hA (Blk.lt hP4.sh), Blk.below hP4.er hA (Blk.lt hP4.er), Blk.below hP4.bx hA (Blk.lt hP4.bx), ⟨v, Blk.below h1 hA (Blk.lt h1), h2.later hA⟩, hP4.bel.trans (hA.mono (by omega)), hP4.ok⟩
  case assign =>
    intro l i W K _ hK
    refine region_wd (fun ⟨_, _, h⟩ => h) rfl ?_
    go_wp2_with fail
    exact hK
  case body =>
    intro l i W hl hi hP
    obtain ⟨v, h4, hG⟩ := hP.row
    refine wpIn_block ?_
    refine wpIn_seq ?_
    refine wpIn_seq ?_
    refine region_wd (fun ⟨_, _, h⟩ => h) rfl ?_
    by_cases hneg : toldI t i < 0
    · go_wp2_with fail
      refine wpIn_cond_true rfl ?_
      refine wpIn_seq ?_
      refine region_wd (fun ⟨_, _, h⟩ => h) rfl ?_
      have hTH : W.there b 0 3 := hP.sh.there (Nat.le_refl 3)
      have hO1 : Own b W (W.setCells b 0 [.int .u8 0, .int .u32 0, .slice none 0 0]) := Own.setCells (b := b) _ 0 W
      have hS1 : Blk (W.setCells b 0 [.int .u8 0, .int .u32 0, .slice none 0 0]) b #[.int .u8 0, .int .u32 0, .slice none 0 0] 52 := hP.sh.wh3 rfl _ _ _
      have hE1 := hO1.blk hP.er (by omega)
      have hHK : Keeps W4.heap.size W (W.setCells b 0 [.int .u8 0, .int .u32 0, .slice none 0 0]) := Keeps.of_own hO1 hP.sh
      obtain ⟨W1, hW1⟩ : ∃ y, W.setCells b 0 [.int .u8 0, .int .u32 0, .slice none 0 0] = y := ⟨_, rfl⟩
      rw [hW1] at hO1 hS1 hE1 hHK
      have d1 : W1.cell? ⟨b + 1, 0, none⟩ = some .nilIface := by rw [Blk.cell hE1]; rfl
      have f1 := hE1.free 0
      have HP := Lib.hid hP
      have HO1 := Lib.hid hO1
      have HS1 := Lib.hid hS1
      have HE1 := Lib.hid hE1
      have HHK := Lib.hid hHK
      have HBD := Lib.hid (show ∃ k, k < t.size / 2 ∧ ¬ (digN (byteF t (2 * k)) < 16 ∧ digN (byteF t (2 * k + 1)) < 16) from ⟨i, hi, toldI_bad hneg⟩)
      clear hP hO1 hS1 hE1 hHK hneg h4 hG
      go_wp2_with (first | (refine wpList_value rfl (exec_bM (parts := #[]) (ps := #[]) (C := #[.int .u8 0, .int .u32 0, .slice none 0 0]) rfl rfl bzsh3) ?_) | (refine wpList_store_mid rfl 52 (.tmp 2) (.tmp 22) rfl b 0 #[.int .u8 0, .int .u32 0, .slice none 0 0] rfl rfl hTH info_sh3 (one_sh3 _ _ _ _ _ _ _) ?_; rw [show (#[Value.int .u8 0, .int .u32 0, .slice none 0 0] : Array Value).toList = [.int .u8 0, .int .u32 0, .slice none 0 0] from rfl, hW1]))
      refine wpIn_ret ?_
      have hO2 : Own (b + 1) W1 (W1.setCell ⟨b + 1, 0, none⟩ (.iface 81 (.int .i64 4))) := (Own.refl _ _).set 0 _
      refine ⟨HHK.out.trans (Keeps.of_own hO2 HE1.out), rfl, hO2.blk HS1.out (by omega), HE1.out.set 0 _, ?_, HBD.out⟩
      exact (HP.out.bel.trans (HO1.out.below (Nat.le_refl _) (by have := Blk.lt HP.out.sh; omega))).trans (hO2.below (by omega) (by have := Blk.lt HS1.out; omega))
    · obtain ⟨hd, he⟩ := toldI_ok hneg
      have hx : unhF t i < 256 := by unfold unhF; omega
      rw [he]
      rw [he] at hneg
      have HD := Lib.hid hd
      have HX : Hid (unhF t i < 256) := Lib.hid hx
      obtain ⟨x, ex⟩ : ∃ y, unhF t i = y := ⟨_, rfl⟩
      have HE := Lib.hid ex
      rw [ex] at hx hneg ⊢
      have n1 : decide ((x : Int) < 0) = false := decide_eq_false hneg
      have n2 : (x : Int) % 256 = (x : Int) := by omega
      go_wp2_with fail
      refine wpIn_cond_false rfl ?_
      refine wpIn_skip ?_
      show Code.wpIn (Wd (some l)) 0 _ _ _ _ _
      refine region_wd (fun ⟨_, _, h⟩ => h) rfl ?_
      have c4 : W.cell? ⟨b + 1 + 1, 0, none⟩ = some v := by show W.cell? ⟨b + 2, 0, none⟩ = _; rw [Blk.cell h4]; rfl
      have HP := Lib.hid hP
      have HG := Lib.hid hG
      have H4 := Lib.hid h4
      have HI := Lib.hid (show i < 72 by have := HT.out.2; omega)
      have HSZ := Lib.hid (show b + 4 ≤ W.heap.size by have := Blk.lt hP.bx; omega)
      clear hP hG h4 hd ex hneg
      go_wp2_with (first
        | (refine wpList_appO rfl (.tmp 24) (.tmp 27) rfl (b + 4) v i 1 1 (some ⟨W.heap.size, 0, none⟩) (unhF t) (fun _ => x) (W.alloc (.cells #[.int .u8 (x : Int)] 5)) rfl (HG.out.later ((Below.refl _ _).alloc (Nat.le_refl _) _)) rfl (fun e => by cases e) (one_byte hx) (by have := HI.out; omega) (Nat.le_trans HSZ.out (by simp)) ?_
           refine Hid.out ?_))
      refine Lib.hid ?_
      intro v2 W2 hG2 hg2 hob2
      have hbl : Below (b + 4) W W2 := ((Below.refl _ W).alloc HSZ.out _).trans (grow_bel (HG.out.later ((Below.refl _ _).alloc (Nat.le_refl _) _)) (Nat.le_trans HSZ.out (by simp)) hg2)
      have HK2 := Lib.hid (fun B => keeps_app (B := B) HG.out ((Below.refl _ W).alloc (Nat.le_refl _) (.cells #[.int .u8 (x : Int)] 5)) hg2)
      have hB4 : Blk W2 (b + 2) #[v] 22 := Blk.below H4.out hbl (by omega)
      have c4' : W2.cell? ⟨b + 1 + 1, 0, none⟩ = some v := by show W2.cell? ⟨b + 2, 0, none⟩ = _; rw [Blk.cell hB4]; rfl
      have f4' : W2.frozen? ⟨b + 1 + 1, 0, none⟩ = false := hB4.free 0
      have HG3 : Hid (Grow W2 (b + 4) v2 (i + 1) (unhF t)) := Lib.hid (hG2.congr fun k hk => by
        unfold catF
        by_cases e : k < i
        · rw [if_pos e]
        · rw [if_neg e, show k = i by omega]; exact HE.out.symm)
      have HOK : Hid (∀ k, k < i + 1 → digN (byteF t (2 * k)) < 16 ∧ digN (byteF t (2 * k + 1)) < 16) := Lib.hid fun k hk => by
        by_cases e : k < i
        · exact HP.out.ok k e
        · rw [show k = i by omega]; exact HD.out
      obtain ⟨g2, cp, hv2, -, -, -, -⟩ := HG3.out.someN (by omega) (fun k hk => by have := HOK.out k hk; unfold unhF; omega)
      have HBL := Lib.hid hbl
      have HB4 := Lib.hid hB4
      subst hv2
      clear hG2 hg2 hob2 hbl hB4 c4 hx
      go_wp2_with fail
      have hO3 : Own (b + 2) W2 (W2.setCell ⟨b + 2, 0, none⟩ (.slice (some ⟨g2, 0, none⟩) (i + 1) cp)) := (Own.refl _ _).set 0 _
      have hb3 : Below b w W2 := HP.out.bel.trans (HBL.out.mono (by omega))
      have hsz := HSZ.out
      refine ⟨(HK2.out _).trans (Keeps.of_own hO3 HB4.out), ⟨hO3.blk (Blk.below HP.out.sh HBL.out (by omega)) (by omega), hO3.blk (Blk.below HP.out.er HBL.out (by omega)) (by omega), hO3.blk (Blk.below HP.out.bx HBL.out (by omega)) (by omega),
        ⟨_, HB4.out.set 0 _, HG3.out.own hO3 (by omega)⟩, hb3.trans (hO3.below (by omega) (by have := HBL.out.size; omega)), HOK.out⟩⟩
  case done =>
    intro D W hD hP hK
    obtain ⟨v, h4, hG⟩ := hP.row
    have hF : ∀ k, k < t.size / 2 → unhF t k < 256 := fun k hk => by have := hP.ok k hk; unfold unhF; omega
    have hTO : TxtOk t := ⟨HT.out.1, HT.out.2, hP.ok⟩
    obtain ⟨oa, cp, hv, hB, hnc, -⟩ := hG.bytesC hF
    subst hv
    have c4 : W.cell? ⟨b + 1 + 1, 0, none⟩ = some (.slice oa (t.size / 2) cp) := by show W.cell? ⟨b + 2, 0, none⟩ = _; rw [Blk.cell h4]; rfl
    have hDlt : D < W.heap.size := lt_of_block hK
    have HP := Lib.hid hP
    have HK := Lib.hid hK
    have HDL := Lib.hid (show b + 4 ≤ D ∧ D < W.heap.size from ⟨by omega, hDlt⟩)
    have HBw := Lib.hid hB
    have hn72 : t.size / 2 ≤ 72 := by have := HT.out.2; omega
    obtain ⟨N, hN⟩ : ∃ y, t.size / 2 = y := ⟨_, rfl⟩
    have HN := Lib.hid hN
    rw [hN] at c4 HBw hnc hn72
    obtain ⟨U, hU⟩ : ∃ y, unhF t = y := ⟨_, rfl⟩
    have HU := Lib.hid hU
    rw [hU] at HBw
    clear hP hK hB hG h4 hD hDlt hN hU hF
    go_wp2_with fail
    by_cases hE : IsEnc N U
    · have hPG : PGood t := ⟨hTO, by rw [HN.out, HU.out]; exact hE⟩
      refine (dec_any N cp oa U W HBw.out hnc hE).mono ?_
      rintro e W1 ⟨g, c, rfl, hg, hc, hx, hB1, hb1⟩
      obtain ⟨x6, e6⟩ : ∃ y, U 6 = y := ⟨_, rfl⟩
      obtain ⟨gg, eg⟩ : ∃ y, genOf U = y := ⟨_, rfl⟩
      obtain ⟨M, eM⟩ : ∃ y, N - 8 = y := ⟨_, rfl⟩
      have HR := Lib.hid (show U 6 = x6 ∧ genOf U = gg ∧ N - 8 = M ∧ W.heap.size ≤ g ∧ M ≤ c ∧ c ≤ maxLen ∧ Bytes W1 (some ⟨g, 0, none⟩) M (fun k => U (8 + k)) from ⟨e6, eg, eM, hg, eM ▸ hc, hx, eM ▸ hB1⟩)
      rw [e6, eg, eM]
      clear hg hc hx hB1 e6 eg eM hE
      have hSh : Blk W1 b #[.int .u8 0, .int .u32 0, .slice none 0 0] 52 := Blk.below HP.out.sh hb1 (Blk.lt HP.out.sh)
      have hTH : W1.there b 0 3 := hSh.there (Nat.le_refl 3)
      obtain ⟨W2, hW2⟩ : ∃ y, W1.setCells b 0 [.int .u8 (x6 : Nat), .int .u32 (gg : Nat), .slice (some ⟨g, 0, none⟩) M c] = y := ⟨_, rfl⟩
      have hO2 : Own b W1 W2 := by rw [← hW2]; exact Own.setCells (b := b) _ 0 W1
      have hS2 : Blk W2 b #[.int .u8 (x6 : Nat), .int .u32 (gg : Nat), .slice (some ⟨g, 0, none⟩) M c] 52 := by rw [← hW2]; exact hSh.wh3 rfl _ _ _
      have hE2 : Blk W2 (b + 1) #[.nilIface] 31 := hO2.blk (Blk.below HP.out.er hb1 (Blk.lt HP.out.er)) (by omega)
      have d1 : W2.cell? ⟨b + 1, 0, none⟩ = some .nilIface := by rw [Blk.cell hE2]; rfl
      have f1 := hE2.free 0
      have HO2 := Lib.hid hO2
      have HS2 := Lib.hid hS2
      have HE2 := Lib.hid hE2
      have HB1 := Lib.hid hb1
      have HPG := Lib.hid hPG
      clear hSh hO2 hS2 hE2 hb1 hPG c4
      go_wp2_with (first | (refine wpList_store_mid rfl 52 (.tmp 2) (.tmp 31) rfl b 0 #[.int .u8 (x6 : Nat), .int .u32 (gg : Nat), .slice (some ⟨g, 0, none⟩) M c] rfl rfl hTH info_sh3 (one_sh3 _ _ _ _ _ _ _) ?_; rw [show (#[.int .u8 (x6 : Nat), .int .u32 (gg : Nat), .slice (some ⟨g, 0, none⟩) M c] : Array Value).toList = [.int .u8 (x6 : Nat), .int .u32 (gg : Nat), .slice (some ⟨g, 0, none⟩) M c] from rfl, hW2]))
      obtain ⟨W3, hW3⟩ : ∃ y, W2.setCell ⟨b + 1, 0, none⟩ .nilIface = y := ⟨_, rfl⟩
      have hO3 : Own (b + 1) W2 W3 := by rw [← hW3]; exact (Own.refl _ _).set 0 _
      have hE3 : Blk W3 (b + 1) #[.nilIface] 31 := by rw [← hW3]; exact HE2.out.set 0 _
      have hS3 := hO3.blk HS2.out (by omega)
      have hDL := HDL.out
      have h12 := HB1.out.size
      have h23 := HO2.out.size
      have h34 := hO3.size
      have hK3 : W3.heap[D]? = some (.deferred (some [])) := (hO3.block D (by omega) (by omega)).trans ((HO2.out.block D (by omega) (by omega)).trans ((HB1.out.block D (by omega)).trans HK.out))
      have hO4 : Own D W3 (W3.putObj D (.deferred none)) := own_put W3 D _
      have hfin : Below w.heap.size w (W3.putObj D (.deferred none)) := by
        rw [hb]
        exact ((HP.out.bel.trans (HB1.out.mono (by omega))).trans ((HO2.out.below (by omega) (by omega)).trans (hO3.below (by omega) (by omega)))).trans (hO4.below (by omega) (by omega))
      rw [hW3]
      refine ⟨by simp, .inl ⟨_, _, rfl, run_takeDeferred hK3, ?_⟩⟩
      refine ⟨_, res_cells Tryd.results33 _ (W3.putObj D (.deferred none)) b (b + 1) 52 #[.int .u8 (x6 : Nat), .int .u32 (gg : Nat), .slice (some ⟨g, 0, none⟩) M c] .nilIface (0, 0) _ rfl (hO4.blk hS3 (by omega)) Tryd.underlying52 rfl info_sh3 rfl (load_err (hO4.blk hE3 (by omega))), hfin, .inl ⟨HPG.out, g, c, ?_, ?_, ?_, HR.out.2.2.2.2.2.1, ?_⟩⟩
      · rw [HU.out, HN.out, HR.out.1, HR.out.2.1, HR.out.2.2.1]
      · have := HR.out.2.2.2.1; have := HP.out.bel.size; omega
      · rw [HN.out, HR.out.2.2.1]; exact HR.out.2.2.2.2.1
      · rw [HU.out, HN.out, HR.out.2.2.1]
        have hgl := HR.out.2.2.2.1
        have q1 := HR.out.2.2.2.2.2.2.own HO2.out (fun a ha _ e => by cases ha; simp at e; omega)
        have q2 := q1.own hO3 (fun a ha _ e => by cases ha; simp at e; omega)
        exact q2.own hO4 (fun a ha _ e => by cases ha; simp at e; omega)
    · have hPG : ¬ PGood t := fun h => hE (by have := h.2; rwa [HN.out, HU.out] at this)
      refine (dec_bad N cp oa U W (by omega) HBw.out hE).mono ?_
      rintro e W1 ⟨rfl, hb1⟩
      unfold zSh eN
      clear hE
      have hSh : Blk W1 b #[.int .u8 0, .int .u32 0, .slice none 0 0] 52 := Blk.below HP.out.sh hb1 (Blk.lt HP.out.sh)
      have hTH : W1.there b 0 3 := hSh.there (Nat.le_refl 3)
      obtain ⟨W2, hW2⟩ : ∃ y, W1.setCells b 0 [.int .u8 0, .int .u32 0, .slice none 0 0] = y := ⟨_, rfl⟩
      have hO2 : Own b W1 W2 := by rw [← hW2]; exact Own.setCells (b := b) _ 0 W1
      have hS2 : Blk W2 b #[.int .u8 0, .int .u32 0, .slice none 0 0] 52 := by rw [← hW2]; exact hSh.wh3 rfl _ _ _
      have hE2 : Blk W2 (b + 1) #[.nilIface] 31 := hO2.blk (Blk.below HP.out.er hb1 (Blk.lt HP.out.er)) (by omega)
      have d1 : W2.cell? ⟨b + 1, 0, none⟩ = some .nilIface := by rw [Blk.cell hE2]; rfl
      have f1 := hE2.free 0
      have HO2 := Lib.hid hO2
      have HS2 := Lib.hid hS2
      have HE2 := Lib.hid hE2
      have HB1 := Lib.hid hb1
      have HPG := Lib.hid hPG
      clear hSh hO2 hS2 hE2 hb1 hPG c4
      go_wp2_with (first | (refine wpList_store_mid rfl 52 (.tmp 2) (.tmp 31) rfl b 0 #[.int .u8 0, .int .u32 0, .slice none 0 0] rfl rfl hTH info_sh3 (one_sh3 _ _ _ _ _ _ _) ?_; rw [show (#[.int .u8 0, .int .u32 0, .slice none 0 0] : Array Value).toList = [.int .u8 0, .int .u32 0, .slice none 0 0] from rfl, hW2]))
      obtain ⟨W3, hW3⟩ : ∃ y, W2.setCell ⟨b + 1, 0, none⟩ (.iface 81 (.int .i64 4)) = y := ⟨_, rfl⟩
      have hO3 : Own (b + 1) W2 W3 := by rw [← hW3]; exact (Own.refl _ _).set 0 _
      have hE3 : Blk W3 (b + 1) #[(.iface 81 (.int .i64 4))] 31 := by rw [← hW3]; exact HE2.out.set 0 _
      have hS3 := hO3.blk HS2.out (by omega)
      have hDL := HDL.out
      have h12 := HB1.out.size
      have h23 := HO2.out.size
      have h34 := hO3.size
      have hK3 : W3.heap[D]? = some (.deferred (some [])) := (hO3.block D (by omega) (by omega)).trans ((HO2.out.block D (by omega) (by omega)).trans ((HB1.out.block D (by omega)).trans HK.out))
      have hO4 : Own D W3 (W3.putObj D (.deferred none)) := own_put W3 D _
      have hfin : Below w.heap.size w (W3.putObj D (.deferred none)) := by
        rw [hb]
        exact ((HP.out.bel.trans (HB1.out.mono (by omega))).trans ((HO2.out.below (by omega) (by omega)).trans (hO3.below (by omega) (by omega)))).trans (hO4.below (by omega) (by omega))
      rw [hW3]
      refine ⟨by simp, .inl ⟨_, _, rfl, run_takeDeferred hK3, ?_⟩⟩
      refine ⟨_, res_cells Tryd.results33 _ (W3.putObj D (.deferred none)) b (b + 1) 52 #[.int .u8 0, .int .u32 0, .slice none 0 0] (.iface 81 (.int .i64 4)) (0, 0) _ rfl (hO4.blk hS3 (by omega)) Tryd.underlying52 rfl info_sh3 rfl (load_err (hO4.blk hE3 (by omega))), hfin, .inr ⟨HPG.out, rfl⟩⟩
  case stop =>
    rintro D c W hD ⟨rfl, hP⟩ hK
    go_wp2_with fail
    refine ⟨by simp, .inl ⟨_, _, rfl, run_takeDeferred hK, ?_⟩⟩
    have hO : Own D W (W.putObj D (.deferred none)) := own_put W D _
    have hlt := lt_of_block hK
    have hr := res_cells Tryd.results33 #[.string t, undef, .pointer (some ⟨b, 0, none⟩), .pointer (some ⟨b + 1, 0, none⟩), .pointer (some ⟨b + 1 + 1, 0, none⟩), undef, .string t, .int .i64 (t.size : Int), .int .i64 0, .bool false, .bool false, .string t, .int .i64 (t.size : Int), .bool false, .bool false, undef, undef, .string t, .func (.func 67) #[] #[.pointer (some ⟨b + 1 + 1 + 1, 0, none⟩)], undef, undef, undef, undef, undef, undef, undef, undef, undef, undef, undef, undef, undef, undef] (W.putObj D (.deferred none)) b (b + 1) 52 #[.int .u8 0, .int .u32 0, .slice none 0 0] eN (0, 0) _ rfl (hO.blk hP.sh (by omega)) Tryd.underlying52 rfl info_sh3 rfl (load_err (hO.blk hP.er (by omega)))
    refine ⟨_, hr, ?_, .inr ⟨fun h => ?_, rfl⟩⟩
    · rw [hb]; exact hP.bel.trans (hO.below (by omega) (by omega))
    · obtain ⟨k, hk, hbk⟩ := hP.bad
      exact hbk (h.1.dig k hk)
end Go.Proofs.YtmhofofidmbgfaaDoor
