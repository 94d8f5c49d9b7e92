/- progress.Reset, Start, Secret. -/
import Derived.Test.YtgiffaeckhhmpaaDoorPg2
import Derived.Test.YtgiffaeckhhmpaaDoorSpA
namespace Go.Proofs.YtgiffaeckhhmpaaDoor
set_option linter.unusedVariables false
set_option linter.unusedSimpArgs false
open Go.RowKit
theorem one_pg (K N : Int) (gen : Int) (mk : ByteArray) (oa : Option Addr) (n cs : Nat) : (#[Value.int .i64 K, Value.int .i64 N, Value.int .u32 gen, Value.string mk, Value.slice oa n cs] : Array Value).all (·.oneCell') = true := all_oneCell_toArray fun v hv => by
  simp at hv
  rcases hv with rfl | rfl | rfl | rfl | rfl <;> rfl
theorem zpg_run (w : World) : (zeroValue 36).run Tryd.prog w = .ok (.agg #[.int .i64 0, .int .i64 0, .int .u32 0, .string ⟨#[]⟩, .slice none 0 0]) w := by kernel_rfl
theorem build_zpg (w : World) : (Instr.build 36 #[]).run Tryd.prog w = .ok (.agg #[.int .i64 0, .int .i64 0, .int .u32 0, .string ⟨#[]⟩, .slice none 0 0]) w := run_build w 36 _ _ (by kernel_rfl)
theorem build_pg (K N : Int) (gen : Nat) (mk : ByteArray) (w : World) : (Instr.build 36 #[(0, .agg #[.int .i64 K, .int .i64 N, .int .u32 (gen : Int)]), (1, .string mk)]).run Tryd.prog w = .ok (.agg #[.int .i64 K, .int .i64 N, .int .u32 (gen : Int), .string mk, .slice none 0 0]) w := run_build w 36 _ _ (by kernel_rfl)
theorem info_pg : (Tryd.prog.info? 36).map (·.size) = some 5 := by kernel_rfl
theorem zpg_runR (w : World) : (zeroValue 54).run Tryd.prog w = .ok (.agg #[.int .i64 0, .int .i64 0, .int .u32 0, .string ⟨#[]⟩, .slice none 0 0]) w := by kernel_rfl
theorem build_zpgR (w : World) : (Instr.build 54 #[]).run Tryd.prog w = .ok (.agg #[.int .i64 0, .int .i64 0, .int .u32 0, .string ⟨#[]⟩, .slice none 0 0]) w := run_build w 54 _ _ (by kernel_rfl)
theorem build_pgR (K N : Int) (gen : Nat) (mk : ByteArray) (w : World) : (Instr.build 54 #[(0, .agg #[.int .i64 K, .int .i64 N, .int .u32 (gen : Int)]), (1, .string mk)]).run Tryd.prog w = .ok (.agg #[.int .i64 K, .int .i64 N, .int .u32 (gen : Int), .string mk, .slice none 0 0]) w := run_build w 54 _ _ (by kernel_rfl)
theorem info_pgR : (Tryd.prog.info? 54).map (·.size) = some 5 := by kernel_rfl
theorem results_cell_tmp3 {P : Program} {fn : Func} {p q r : Tmp} {ty : TypeId} (h : fn.results = #[.cell p ty, .tmp q, .tmp r]) (tmps : Array Value) (w : World) (g : Nat) (t : TypeId) (cs : Array Value) (fr : Nat × Nat) (d : TypeDesc)
    (hp : tmps.getD p undef = .pointer (some ⟨g, 0, none⟩)) (hg : w.heap[g]? = some (.cells cs t fr))
    (hu : P.underlying ty = some d) (hd : (match d with | .struct _ | .array _ _ => true | _ => false) = true) (hi : (P.info? ty).map (·.size) = some cs.size) :
    (results fn tmps).run P w = .ok (.tuple #[.agg cs, tmps.getD q undef, tmps.getD r undef]) w := by
  have hp' : tmps[p]?.getD undef = .pointer (some ⟨g, 0, none⟩) := by simpa using hp
  simp [results, h, hp', asAddr, run_loadVar_row w g t ty cs fr d hg hu hd hi]
/-- A progress's block, stored over whole. -/
theorem Blk.whole5 {w : World} {b : Nat} {D : Array Value} {t : TypeId} (h : Blk w b D t) (hs : D.size = 5) (x y z u v : Value) : Blk (w.setCells b 0 [x, y, z, u, v]) b #[x, y, z, u, v] t := Blk.setCells h [x, y, z, u, v] hs.symm
theorem range5 {w : World} {b : Nat} {x y z u v : Value} {t : TypeId} (h : Blk w b #[x, y, z, u, v] t) : w.rangeAt b 0 [x, y, z, u, v] := Blk.range0 (C := [x, y, z, u, v]) h
set_option maxRecDepth 100000 in
set_option maxHeartbeats 4000000 in
theorem reset_any (K N : Int) (gen n cs : Nat) (mk : ByteArray) (oa : Option Addr) (w : World) :
    Calls Tryd.prog 10 #[.agg #[.int .i64 K, .int .i64 N, .int .u32 (gen : Int), .string mk, .slice oa n cs]] w fun e w' => e = .returned (.agg #[.int .i64 K, .int .i64 N, .int .u32 (gen : Int), .string mk, .slice none 0 0]) ∧ Below w.heap.size w w' := by
  obtain ⟨b2, hb2⟩ : ∃ y, w.heap.size + 1 = y := ⟨_, rfl⟩
  obtain ⟨w1, hw1⟩ : ∃ y, (w.alloc (.cells #[.int .i64 K, .int .i64 N, .int .u32 (gen : Int), .string mk, .slice oa n cs] 36)).alloc (.cells #[.int .i64 0, .int .i64 0, .int .u32 0, .string ⟨#[]⟩, .slice none 0 0] 36) = y := ⟨_, rfl⟩
  have hbl : Below w.heap.size w w1 := by rw [← hw1]; exact ((Below.refl _ _).alloc (Nat.le_refl _) _).alloc (by simp) _
  have hP : Blk w1 w.heap.size #[.int .i64 K, .int .i64 N, .int .u32 (gen : Int), .string mk, .slice oa n cs] 36 := by rw [← hw1]; exact (Blk.new _ _ _).alloc _
  have hB : Blk w1 b2 #[.int .i64 0, .int .i64 0, .int .u32 0, .string ⟨#[]⟩, .slice none 0 0] 36 := by rw [← hw1, ← hb2]; simpa using Blk.new (w.alloc (.cells #[.int .i64 K, .int .i64 N, .int .u32 (gen : Int), .string mk, .slice oa n cs] 36)) #[.int .i64 0, .int .i64 0, .int .u32 0, .string ⟨#[]⟩, .slice none 0 0] 36
  have HRP := Lib.hid (pg_plan hP)
  have c3 := pg_mk hP
  have HTH : Hid (w1.there b2 0 5) := Lib.hid (hB.there (by decide))
  have HX : Hid (Blk (w1.setCells b2 0 [.int .i64 K, .int .i64 N, .int .u32 (gen : Int), .string mk, .slice none 0 0]) b2 #[.int .i64 K, .int .i64 N, .int .u32 (gen : Int), .string mk, .slice none 0 0] 36 ∧ Below w.heap.size w (w1.setCells b2 0 [.int .i64 K, .int .i64 N, .int .u32 (gen : Int), .string mk, .slice none 0 0])) := Lib.hid ⟨hB.whole5 rfl _ _ _ _ _, hbl.trans ((Own.setCells (b := b2) _ 0 w1).below (by omega) hbl.size)⟩
  have hz := zpg_run
  clear hP hB hbl
  go_enter Tryd.func10, Tryd.ntmps10
  go_wp2_with (first
    | (refine wpList_value rfl (exec_loadM (x := .tmp 3) (cs := [.int .i64 K, .int .i64 N, .int .u32 (gen : Int)]) rfl rfl HRP.out Tryd.underlying26 rfl info_plan3) ?_)
    | (refine wpList_value rfl (exec_buildM (parts := #[(0, .tmp 4), (1, .tmp 6)]) (ps := #[(0, .agg #[.int .i64 K, .int .i64 N, .int .u32 (gen : Int)]), (1, .string mk)]) rfl rfl (build_pg K N gen mk)) ?_)
    | (refine wpList_store_mid rfl 36 (.tmp 2) (.tmp 7) rfl b2 0 #[.int .i64 K, .int .i64 N, .int .u32 (gen : Int), .string mk, .slice none 0 0] rfl rfl HTH.out info_pg (one_pg _ _ _ _ _ _ _) ?_))
  refine bodyPost_ret (v := .agg #[.int .i64 K, .int .i64 N, .int .u32 (gen : Int), .string mk, .slice none 0 0]) ?_ rfl ⟨rfl, HX.out.2⟩
  exact results_cell_row Tryd.results10 _ _ b2 36 #[.int .i64 K, .int .i64 N, .int .u32 (gen : Int), .string mk, .slice none 0 0] (0, 0) _ rfl HX.out.1 Tryd.underlying36 rfl info_pg
/-- What Start answers. -/
def StR (K N : Int) (gen : Nat) (mk : ByteArray) (w : World) (e : Ending) (w' : World) : Prop :=
  ((e = .returned (.tuple #[.agg #[.int .i64 K, .int .i64 N, .int .u32 (gen : Int), .string mk, .slice none 0 0], .nilIface]) ∧ ∀ S, MayG K N gen S 0 mk.size) ∨ (e = .returned (.tuple #[.agg #[.int .i64 0, .int .i64 0, .int .u32 0, .string ⟨#[]⟩, .slice none 0 0], .iface 83 (.int .i64 1)]) ∧ ∀ S, ¬ MayG K N gen S 0 mk.size)) ∧ Below w.heap.size w w'
theorem MayG.any {K N : Int} {gen ml : Nat} {S : Nat → Sh} (h : MayG K N gen S 0 ml) (T : Nat → Sh) : MayG K N gen T 0 ml := h.congr fun q hq => absurd hq (Nat.not_lt_zero _)
set_option maxRecDepth 100000 in
set_option maxHeartbeats 4000000 in
theorem start_any (K N : Int) (gen : Nat) (mk : ByteArray) (w : World) (hmk : mk.size < 100000000) :
    Calls Tryd.prog 8 #[.agg #[.int .i64 K, .int .i64 N, .int .u32 (gen : Int)], .string mk] w (StR K N gen mk w) := by
  obtain ⟨b4, hb4⟩ : ∃ y, w.heap.size + 1 = y := ⟨_, rfl⟩
  obtain ⟨b6, hb6⟩ : ∃ y, b4 + 1 = y := ⟨_, rfl⟩
  obtain ⟨wz, hwz⟩ : ∃ y, ((w.alloc (.cells #[.int .i64 K, .int .i64 N, .int .u32 (gen : Int)] 26)).alloc (.cells #[.int .i64 0, .int .i64 0, .int .u32 0, .string ⟨#[]⟩, .slice none 0 0] 36)).alloc (.cells #[.int .i64 0, .int .i64 0, .int .u32 0, .string ⟨#[]⟩, .slice none 0 0] 36) = y := ⟨_, rfl⟩
  have hblz : Below w.heap.size w wz := by rw [← hwz]; exact (((Below.refl _ _).alloc (Nat.le_refl _) _).alloc (by simp) _).alloc (by simp; omega) _
  have hBz : Blk wz b4 #[.int .i64 0, .int .i64 0, .int .u32 0, .string ⟨#[]⟩, .slice none 0 0] 36 := by rw [← hwz, ← hb4]; have h9 := (Blk.new (w.alloc (.cells #[.int .i64 K, .int .i64 N, .int .u32 (gen : Int)] 26)) #[.int .i64 0, .int .i64 0, .int .u32 0, .string ⟨#[]⟩, .slice none 0 0] 36).alloc (.cells #[.int .i64 0, .int .i64 0, .int .u32 0, .string ⟨#[]⟩, .slice none 0 0] 36); simpa using h9
  have hXz : Blk wz b6 #[.int .i64 0, .int .i64 0, .int .u32 0, .string ⟨#[]⟩, .slice none 0 0] 36 := by rw [← hwz, ← hb6, ← hb4]; have h9 := Blk.new ((w.alloc (.cells #[.int .i64 K, .int .i64 N, .int .u32 (gen : Int)] 26)).alloc (.cells #[.int .i64 0, .int .i64 0, .int .u32 0, .string ⟨#[]⟩, .slice none 0 0] 36)) #[.int .i64 0, .int .i64 0, .int .u32 0, .string ⟨#[]⟩, .slice none 0 0] 36; simpa using h9
  have HTZ : Hid (wz.there b6 0 5) := Lib.hid (hXz.there (by decide))
  obtain ⟨w1, hw1⟩ : ∃ y, wz.setCells b6 0 [.int .i64 K, .int .i64 N, .int .u32 (gen : Int), .string mk, .slice none 0 0] = y := ⟨_, rfl⟩
  have hOz : Own b6 wz w1 := by rw [← hw1]; exact Own.setCells _ _ _
  have hbl : Below w.heap.size w w1 := hblz.trans (hOz.below (by omega) hblz.size)
  have hB : Blk w1 b4 #[.int .i64 0, .int .i64 0, .int .u32 0, .string ⟨#[]⟩, .slice none 0 0] 36 := hOz.blk hBz (by omega)
  have hX : Blk w1 b6 #[.int .i64 K, .int .i64 N, .int .u32 (gen : Int), .string mk, .slice none 0 0] 36 := by rw [← hw1]; exact hXz.whole5 rfl _ _ _ _ _
  have HLT := Lib.hid (show w.heap.size ≤ b4 by omega)
  have HCK := Lib.hid (check_pg 0 K N gen 0 0 mk none (fun _ => default) w1 (fun i hi => absurd hi (Nat.not_lt_zero _)) (fun i hi => absurd hi (Nat.not_lt_zero _)) (by decide) (Nat.le_refl _) hmk)
  have HRX := Lib.hid (range5 hX)
  have HX1 := Lib.hid hX
  have HB1 := Lib.hid hB
  have HBL := Lib.hid hbl
  have hz := zpg_run
  have HW1 := Lib.hid hw1
  clear hB hX hbl hmk hblz hBz hXz hOz hw1
  go_enter Tryd.func8, Tryd.ntmps8
  go_wp2_with (first
    | (refine wpList_value rfl (exec_buildM (parts := #[(0, .tmp 8), (1, .tmp 9)]) (ps := #[(0, .agg #[.int .i64 K, .int .i64 N, .int .u32 (gen : Int)]), (1, .string mk)]) rfl rfl (build_pg K N gen mk)) ?_)
    | (refine wpList_store_mid rfl 36 (.tmp 6) (.tmp 10) rfl b6 0 #[.int .i64 K, .int .i64 N, .int .u32 (gen : Int), .string mk, .slice none 0 0] rfl rfl HTZ.out info_pg (one_pg _ _ _ _ _ _ _) ?_; rw [HW1.out])
    | (refine wpList_value rfl (exec_loadM (x := .tmp 6) (cs := [.int .i64 K, .int .i64 N, .int .u32 (gen : Int), .string mk, .slice none 0 0]) rfl rfl HRX.out Tryd.underlying36 rfl info_pg) ?_))
  refine HCK.out.mono ?_
  rintro e w2 ⟨(⟨rfl, hm⟩ | ⟨rfl, hm⟩), hb2⟩
  · have HM := Lib.hid hm
    have hX2 := Blk.below HX1.out hb2 (Blk.lt HX1.out)
    have hB2 := Blk.below HB1.out hb2 (Blk.lt HB1.out)
    have HR2 := Lib.hid (range5 hX2)
    have HTH : Hid (w2.there b4 0 5) := Lib.hid (hB2.there (by decide))
    have hbl := HBL.out.trans (hb2.mono HBL.out.size)
    have HX : Hid (Blk (w2.setCells b4 0 [.int .i64 K, .int .i64 N, .int .u32 (gen : Int), .string mk, .slice none 0 0]) b4 #[.int .i64 K, .int .i64 N, .int .u32 (gen : Int), .string mk, .slice none 0 0] 36 ∧ Below w.heap.size w (w2.setCells b4 0 [.int .i64 K, .int .i64 N, .int .u32 (gen : Int), .string mk, .slice none 0 0])) := Lib.hid ⟨hB2.whole5 rfl _ _ _ _ _, hbl.trans ((Own.setCells (b := b4) _ 0 w2).below HLT.out hbl.size)⟩
    clear hm hX2 hB2 hbl hb2 hz
    go_wp2_with (first
      | (refine wpList_value rfl (exec_loadM (x := .tmp 6) (cs := [.int .i64 K, .int .i64 N, .int .u32 (gen : Int), .string mk, .slice none 0 0]) rfl rfl HR2.out Tryd.underlying36 rfl info_pg) ?_)
      | (refine wpList_store_mid rfl 36 (.tmp 4) (.tmp 17) rfl b4 0 #[.int .i64 K, .int .i64 N, .int .u32 (gen : Int), .string mk, .slice none 0 0] rfl rfl HTH.out info_pg (one_pg _ _ _ _ _ _ _) ?_))
    refine bodyPost_ret (v := .tuple #[.agg #[.int .i64 K, .int .i64 N, .int .u32 (gen : Int), .string mk, .slice none 0 0], .nilIface]) ?_ rfl ⟨.inl ⟨rfl, fun S => HM.out.any S⟩, HX.out.2⟩
    exact results_cell_tmp' Tryd.results8 _ _ b4 36 #[.int .i64 K, .int .i64 N, .int .u32 (gen : Int), .string mk, .slice none 0 0] (0, 0) _ rfl HX.out.1 Tryd.underlying36 rfl info_pg
  · have HM := Lib.hid hm
    have hB2 := Blk.below HB1.out hb2 (Blk.lt HB1.out)
    have HTH : Hid (w2.there b4 0 5) := Lib.hid (hB2.there (by decide))
    have hbl := HBL.out.trans (hb2.mono HBL.out.size)
    have HX : Hid (Blk (w2.setCells b4 0 [.int .i64 0, .int .i64 0, .int .u32 0, .string ⟨#[]⟩, .slice none 0 0]) b4 #[.int .i64 0, .int .i64 0, .int .u32 0, .string ⟨#[]⟩, .slice none 0 0] 36 ∧ Below w.heap.size w (w2.setCells b4 0 [.int .i64 0, .int .i64 0, .int .u32 0, .string ⟨#[]⟩, .slice none 0 0])) := Lib.hid ⟨hB2.whole5 rfl _ _ _ _ _, hbl.trans ((Own.setCells (b := b4) _ 0 w2).below HLT.out hbl.size)⟩
    clear hm hB2 hbl hb2 hz
    go_wp2_with (first
      | (refine wpList_value rfl (exec_buildM (parts := #[]) (ps := #[]) (C := #[.int .i64 0, .int .i64 0, .int .u32 0, .string ⟨#[]⟩, .slice none 0 0]) rfl rfl build_zpg) ?_)
      | (refine wpList_store_mid rfl 36 (.tmp 4) (.tmp 15) rfl b4 0 #[.int .i64 0, .int .i64 0, .int .u32 0, .string ⟨#[]⟩, .slice none 0 0] rfl rfl HTH.out info_pg (one_pg _ _ _ _ _ _ _) ?_))
    refine bodyPost_ret (v := .tuple #[.agg #[.int .i64 0, .int .i64 0, .int .u32 0, .string ⟨#[]⟩, .slice none 0 0], .iface 83 (.int .i64 1)]) ?_ rfl ⟨.inr ⟨rfl, fun S h => HM.out (h.any _)⟩, HX.out.2⟩
    exact results_cell_tmp' Tryd.results8 _ _ b4 36 #[.int .i64 0, .int .i64 0, .int .u32 0, .string ⟨#[]⟩, .slice none 0 0] (0, 0) _ rfl HX.out.1 Tryd.underlying36 rfl info_pg
/-- What Secret answers: k the error's number. -/
def secK (K N : Int) (gen : Nat) (S : Nat → Sh) (n ml k : Nat) : Prop := (k = 1 ∧ ¬ MayG K N gen S n ml) ∨ (k = 2 ∧ MayG K N gen S n ml ∧ (n : Int) < K) ∨ (k = 0 ∧ MayG K N gen S n ml ∧ (n : Int) = K)
def SecR (tb : Nat) (S : Nat → Sh) (n k : Nat) (w : World) (e : Ending) (w' : World) : Prop :=
  (k = 0 ∧ ∃ g, e = .returned (.tuple #[.slice (some ⟨g, 0, none⟩) 32 32, .nilIface]) ∧ w.heap.size ≤ g ∧ Row w' g 32 (jnF S 0 n) ∧ Left tb w w') ∨
  (k ≠ 0 ∧ e = .returned (.tuple #[.slice none 0 0, .iface 83 (.int .i64 (k : Int))]) ∧ Left tb w w')
set_option maxRecDepth 100000 in
set_option maxHeartbeats 4000000 in
theorem secret_any (tb : Nat) (K N : Int) (gen n cs k : Nat) (mk : ByteArray) (oa : Option Addr) (S : Nat → Sh) (w : World) (hT : TabIn w tb) (hS : Shs tb w oa n S) (hix : ∀ i, i < n → (S i).ix < 256) (hn : n < 100000000) (hnc : n ≤ cs) (hm : cs ≤ maxLen) (hmk : mk.size < 100000000) (hk : secK K N gen S n mk.size k) :
    Calls Tryd.prog 13 #[.pointer (some ⟨tb, 0, none⟩), .agg #[.int .i64 K, .int .i64 N, .int .u32 (gen : Int), .string mk, .slice oa n cs]] w (SecR tb S n k w) := by
  obtain ⟨w1, hw1⟩ : ∃ x, w.alloc (.cells #[.int .i64 K, .int .i64 N, .int .u32 (gen : Int), .string mk, .slice oa n cs] 36) = x := ⟨_, rfl⟩
  have hb1 : Below w.heap.size w w1 := by rw [← hw1]; exact (Below.refl _ _).alloc (Nat.le_refl _) _
  have hP : Blk w1 w.heap.size #[.int .i64 K, .int .i64 N, .int .u32 (gen : Int), .string mk, .slice oa n cs] 36 := by rw [← hw1]; exact Blk.new _ _ _
  have HCK := Lib.hid (check_pg tb K N gen n cs mk oa S w1 (hS.later hb1) hix hn hnc hmk)
  have HRX := Lib.hid (range5 hP)
  have HP := Lib.hid hP
  have HB1 := Lib.hid hb1
  have HT1 := Lib.hid (hT.below hb1)
  have HS1 := Lib.hid (hS.later hb1)
  have HN := Lib.hid (show n ≤ cs ∧ cs ≤ maxLen ∧ n < 100000000 from ⟨hnc, hm, hn⟩)
  have HIX := Lib.hid hix
  have HK := Lib.hid hk
  clear hP hb1 hT hS hn hnc hm hmk hix hk
  go_enter Tryd.func13, Tryd.ntmps13
  go_wp2_with (first | (refine wpList_value rfl (exec_loadM (x := .tmp 3) (cs := [.int .i64 K, .int .i64 N, .int .u32 (gen : Int), .string mk, .slice oa n cs]) rfl rfl HRX.out Tryd.underlying36 rfl info_pg) ?_))
  refine HCK.out.mono ?_
  rintro e w2 ⟨(⟨rfl, hmg⟩ | ⟨rfl, hmg⟩), hb2⟩
  rotate_left
  · obtain rfl : k = 1 := by
      rcases HK.out with ⟨h, _⟩ | ⟨_, h, _⟩ | ⟨_, h, _⟩
      · exact h
      · exact absurd h hmg
      · exact absurd h hmg
    have HL : Hid (Left tb w w2) := Lib.hid ((Left.base ⟨HT1.out.below hb2, Own.of_below hb2⟩ HB1.out))
    clear hmg hb2
    go_wp2_with fail
    go_ret2
    exact .inr ⟨by decide, rfl, HL.out⟩
  have HMG := Lib.hid hmg
  obtain ⟨Kp, rfl⟩ : ∃ k : Nat, K = (k : Int) := ⟨K.toNat, by have := hmg.1.1; omega⟩
  obtain ⟨Nn, rfl⟩ : ∃ k : Nat, N = (k : Int) := ⟨N.toNat, by have := hmg.1.1; have := hmg.1.2; omega⟩
  have HKN : Hid (2 ≤ Kp ∧ Kp ≤ Nn ∧ Nn ≤ 255 ∧ n ≤ Kp) := Lib.hid (by obtain ⟨⟨h1, h2, h3⟩, h4, h5, h6⟩ := hmg; omega)
  have HB2 := Lib.hid hb2
  have hq := Blk.below HP.out hb2 (Blk.lt HP.out)
  have c0 := pg_k hq
  have c4 := pg_sl hq
  have HRQ := Lib.hid (pg_plan hq)
  have HN9 := Lib.hid (show n ≤ 255 by have := HKN.out; omega)
  clear hq hb2 hmg
  by_cases hlt : n < Kp
  · obtain rfl : k = 2 := by
      rcases HK.out with ⟨_, h⟩ | ⟨h, _⟩ | ⟨_, _, h⟩
      · exact absurd HMG.out h
      · exact h
      · omega
    have HL : Hid (Left tb w w2) := Lib.hid ((Left.base ⟨HT1.out.below HB2.out, Own.of_below HB2.out⟩ HB1.out))
    have l1 : (n : Int) < ((Kp : Int) : Int) := by omega
    have l2 : decide ((n : Int) < ((Kp : Int) : Int)) = true := decide_eq_true l1
    have l7 : n < Kp := by omega
    have l8 : decide (n < Kp) = true := decide_eq_true l7
    clear hlt
    go_wp2_with fail
    go_ret2
    exact .inr ⟨by decide, rfl, HL.out⟩
  obtain rfl : n = Kp := by have := HKN.out; omega
  obtain rfl : k = 0 := by
    rcases HK.out with ⟨_, h⟩ | ⟨_, _, h⟩ | ⟨h, _⟩
    · exact absurd HMG.out h
    · omega
    · exact h
  have HNE : Hid (needE S n n gen = 0 ∧ (S 0).len = 32) := Lib.hid (by
    have h4 := HMG.out.2.2.2
    have h5 := wrongN_zero (h4 0 (by have := HKN.out; omega))
    exact ⟨okN_need h4 (by have := HKN.out; omega), h5.2.2.2.2⟩)
  have HCO := Lib.hid (combine_any tb n cs n Nn gen oa S w2 (HT1.out.below HB2.out) (HS1.out.later HB2.out) HIX.out HN.out.1 HN.out.2.1 HKN.out.1 HKN.out.2.1 HKN.out.2.2.1)
  have l1 : ¬ (n : Int) < ((n : Int) : Int) := by omega
  have l2 : decide ((n : Int) < ((n : Int) : Int)) = false := decide_eq_false l1
  have l7 : ¬ n < n := by omega
  have l8 : decide (n < n) = false := decide_eq_false l7
  clear hlt
  go_wp2_with (first | (refine wpList_value rfl (exec_loadM (x := .tmp 23) (cs := [.int .i64 (n : Int), .int .i64 (Nn : Int), .int .u32 (gen : Int)]) rfl rfl HRQ.out Tryd.underlying26 rfl info_plan3) ?_))
  refine HCO.out.mono ?_
  rintro e w3 (⟨h0, g, rfl, hg, hR, hL⟩ | ⟨h0, rfl, hL⟩)
  rotate_left
  · exact absurd HNE.out.1 h0
  rw [HNE.out.2] at hR ⊢
  have HX : Hid (w.heap.size ≤ g ∧ Row w3 g 32 (jnF S 0 n) ∧ Left tb w w3) := Lib.hid ⟨by have := HB1.out.size; have := HB2.out.size; omega, hR, Left.base hL (HB1.out.trans (HB2.out.mono HB1.out.size))⟩
  clear h0 hg hR hL
  go_wp2_with fail
  go_ret2
  exact .inl ⟨rfl, g, rfl, HX.out⟩
end Go.Proofs.YtgiffaeckhhmpaaDoor
