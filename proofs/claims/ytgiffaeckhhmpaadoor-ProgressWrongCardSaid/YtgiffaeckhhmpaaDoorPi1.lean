/- The law's progress given to the program; held against the document's. -/
import Derived.Test.YtgiffaeckhhmpaaDoorPh3
import Derived.Test.YtgiffaeckhhmpaaDoorSt3
import Derived.ChangeKeysEq
namespace Go.Proofs.YtgiffaeckhhmpaaDoor
set_option linter.unusedVariables false
set_option linter.unusedSimpArgs false
open Go.RowKit
theorem build_pg3 (K N : Int) (gen : Nat) (mk : ByteArray) (o : Option Addr) (n c : Nat) (w : World) : (Instr.build 36 #[(0, .agg #[.int .i64 K, .int .i64 N, .int .u32 (gen : Int)]), (1, .string mk), (2, .slice o n c)]).run Tryd.prog w = .ok (.agg #[.int .i64 K, .int .i64 N, .int .u32 (gen : Int), .string mk, .slice o n c]) w := run_build w 36 _ _ (by kernel_rfl)
theorem Shs.fresh2 {tb T : Nat} {w : World} {oa : Option Addr} {n : Nat} {S : Nat → Sh} (h : Shs tb w oa n S) (hT : w.heap.size ≤ T) : Shs T w oa n S := fun i hi => by
  obtain ⟨b, off, C, h1, hne, h2, h3⟩ := h i hi
  have h9 := (h2.isP (P := fun q => q < w.heap.size) fun q hq _ => hq).isSh (tb := T) fun q hq => by omega
  have hb : b < w.heap.size := by
    have h4 := h3 0 (by decide)
    obtain ⟨oa', cap, rfl, _⟩ := h2
    exact World.block_lt_of_cell? w _ h4
  exact ⟨b, off, C, h1, by omega, h9, h3⟩
theorem plain_int : Tryd.prog.plainKey 3 = true := by kernel_rfl
theorem plain_u32 : Tryd.prog.plainKey 24 = true := by kernel_rfl
theorem fields_plan : (Tryd.prog.fieldsOf 26).toList = [{ name := "K", type := 3, offset := 0, embedded := false, tag := "", pkgPath := "", byteOffset := 0 }, { name := "N", type := 3, offset := 1, embedded := false, tag := "", pkgPath := "", byteOffset := 8 }, { name := "Gen", type := 24, offset := 2, embedded := false, tag := "", pkgPath := "", byteOffset := 16 }] := by kernel_rfl
theorem eq_plan (K N g : Int) (w : World) : (Op.equalIn 10000 26 (.agg #[.int .i64 K, .int .i64 N, .int .u32 g]) (.agg #[.int .i64 K, .int .i64 N, .int .u32 g])).run Tryd.prog w = .ok true w := by
  have p0 : (#[.int .i64 K, .int .i64 N, .int .u32 g] : Array Value)[0]? = some (.int .i64 K) := rfl
  have p1 : (#[.int .i64 K, .int .i64 N, .int .u32 g] : Array Value)[1]? = some (.int .i64 N) := rfl
  have p2 : (#[.int .i64 K, .int .i64 N, .int .u32 g] : Array Value)[2]? = some (.int .u32 g) := rfl
  have hi : Tryd.prog.underlying 3 = some (.int .i64) := Tryd.underlying3
  have hu : Tryd.prog.underlying 24 = some (.int .u32) := Tryd.underlying24
  rw [run_equalIn_struct w 9999 26 _ _ (by kernel_rfl) (by kernel_rfl), fields_plan]
  have h1 : ("K" : String) ≠ "_" := by decide
  have h2 : ("N" : String) ≠ "_" := by decide
  have h3 : ("Gen" : String) ≠ "_" := by decide
  simp only [Op.eqFields, if_pos h1, if_pos h2, if_pos h3, Sem.run_bind, run_part_plain w plain_int p0, run_part_plain w plain_int p1, run_part_plain w plain_u32 p2, Result.andThen_ok, run_equalIn_int w 9998 _ .i64 .i64 _ _ hi, run_equalIn_int w 9998 _ .u32 .u32 _ _ hu]
  have q0 := run_part_plain w plain_int p0
  have q1 := run_part_plain w plain_int p1
  have q2 := run_part_plain w plain_u32 p2
  have r0 := run_equalIn_int (P := Tryd.prog) w 9998 3 .i64 .i64 K K hi
  have r1 := run_equalIn_int (P := Tryd.prog) w 9998 3 .i64 .i64 N N hi
  have r2 := run_equalIn_int (P := Tryd.prog) w 9998 24 .u32 .u32 g g hu
  simp [q0, q1, q2, r0, r1, r2]
set_option maxRecDepth 100000 in
set_option maxHeartbeats 4000000 in
theorem giveprog_any (tb : Nat) (Kq Nq : Int) (gen n cs : Nat) (mk : ByteArray) (oa : Option Addr) (S : Nat → Sh) (w : World) (hS : Shs tb w oa n S) (hn : n ≤ 1000) :
    Calls Tryd.prog 14 #[.agg #[.int .i64 Kq, .int .i64 Nq, .int .u32 (gen : Int), .string mk, .slice oa n cs]] w fun e w' => ∃ tb2 ob cb, e = .returned (.agg #[.int .i64 Kq, .int .i64 Nq, .int .u32 (gen : Int), .string mk, .slice ob n cb]) ∧ n ≤ cb ∧ cb ≤ maxLen ∧ Shs tb2 w' ob n S ∧ tb2 < w'.heap.size ∧ Below w.heap.size w w' := by
  obtain ⟨b2, hb2⟩ : ∃ y, w.heap.size + 1 = y := ⟨_, rfl⟩
  obtain ⟨w1, hw1⟩ : ∃ y, (w.alloc (.cells #[.int .i64 Kq, .int .i64 Nq, .int .u32 (gen : Int), .string mk, .slice oa n cs] 54)).alloc (.cells #[.int .i64 0, .int .i64 0, .int .u32 0, .string ⟨#[]⟩, .slice none 0 0] 36) = y := ⟨_, rfl⟩
  have hbl : Below w.heap.size w w1 := by rw [← hw1]; exact ((Below.refl _ _).alloc (Nat.le_refl _) _).alloc (by simp) _
  have hP : Blk w1 w.heap.size #[.int .i64 Kq, .int .i64 Nq, .int .u32 (gen : Int), .string mk, .slice oa n cs] 54 := by rw [← hw1]; exact (Blk.new _ _ _).alloc _
  have hB : Blk w1 b2 #[.int .i64 0, .int .i64 0, .int .u32 0, .string ⟨#[]⟩, .slice none 0 0] 36 := by rw [← hw1, ← hb2]; simpa using Blk.new (w.alloc (.cells #[.int .i64 Kq, .int .i64 Nq, .int .u32 (gen : Int), .string mk, .slice oa n cs] 54)) #[.int .i64 0, .int .i64 0, .int .u32 0, .string ⟨#[]⟩, .slice none 0 0] 36
  have hbd := (Below.refl w1.heap.size w1).drew
  have HPD := Lib.hid (Blk.below hP hbd (Blk.lt hP))
  have HZD := Lib.hid (Blk.below hB hbd (Blk.lt hB))
  have HBD := Lib.hid (hbl.trans (hbd.mono hbl.size))
  have HNE : Hid (w.heap.size ≠ b2) := Lib.hid (by omega)
  have HLT : Hid (w.heap.size ≤ b2) := Lib.hid (by omega)
  have HGS := Lib.hid (fun A (hA : Below w1.drew.heap.size w1.drew A) => give_any b2 n cs oa S A (by have := HZD.out.lt; have := hA.size; omega) (((hS.fresh2 (by omega)).later HBD.out).later hA) hn)
  have hsz : (w.alloc (.cells #[.int .i64 Kq, .int .i64 Nq, .int .u32 (gen : Int), .string mk, .slice oa n cs] 54)).heap.size = b2 := by rw [← hb2]; simp
  clear hP hB hbl hbd hS hn
  go_enter Tryd.func14, Tryd.ntmps14
  go_upto_region 1 with (first | (refine wpList_zero rfl rfl zpg_run ?_; rw [hw1, hsz]))
  (try simp only [Act.put, List.setIfInBounds_toArray, List.set_cons_zero, List.set_cons_succ])
  clear hsz hw1
  refine wp_region_held_drew (S := (Own b2 w1.drew)) (by kernel_rfl) ?_ (fun hHeld => ?_)
  · (try dsimp only)
    (first | exact Own.refl _ _ | assumption)
  generalize w1.drew = WR at *
  refine wpAnyH_take (i := 0) (oi := { dst := some 3, op := Go.Op.fieldAddr 54 (Go.Operand.tmp 1) 0, type := 0, pos := "law.go:51", after := #[], guard := none }) (v := ?_) rfl (by kernel_rfl) (by kernel_rfl) (by kernel_rfl) (fun _ _ _ h => h) (Or.inl ⟨by rfl, ?_⟩) (by assumption) ?_
  rotate_left
  · intro wS hSw
    (try dsimp only at hSw)
    go_simp
    (try with_reducible rfl)
  (try simp only [Act.put, List.setIfInBounds_toArray, List.set_cons_zero, List.set_cons_succ])
  refine wpAnyH_take (i := 1) (oi := { dst := some 4, op := Go.Op.load 51 (Go.Operand.tmp 3), type := 51, pos := "law.go:51", after := #[{ on := 0, ground := Go.Ground.data }], guard := none }) (v := ?_) rfl (by kernel_rfl) (by kernel_rfl) (by kernel_rfl) (fun _ _ _ h => h) (Or.inl ⟨by rfl, ?_⟩) (by assumption) ?_
  rotate_left
  · intro wS hSw
    (refine exec_loadM (x := .tmp 3) (cs := [.int .i64 Kq, .int .i64 Nq, .int .u32 (gen : Int)]) ?_ ?_ (pg_plan (hSw.blk HPD.out HNE.out)) Tryd.underlying51 rfl info_rplan3 <;> rfl)
  (try simp only [Act.put, List.setIfInBounds_toArray, List.set_cons_zero, List.set_cons_succ])
  refine wpAnyH_take (i := 2) (oi := { dst := some 5, op := Go.Op.fieldAddr 54 (Go.Operand.tmp 1) 1, type := 0, pos := "law.go:51", after := #[], guard := none }) (v := ?_) rfl (by kernel_rfl) (by kernel_rfl) (by kernel_rfl) (fun _ _ _ h => h) (Or.inl ⟨by rfl, ?_⟩) (by assumption) ?_
  rotate_left
  · intro wS hSw
    (try dsimp only at hSw)
    go_simp
    (try with_reducible rfl)
  (try simp only [Act.put, List.setIfInBounds_toArray, List.set_cons_zero, List.set_cons_succ])
  refine wpAnyH_take (i := 3) (oi := { dst := some 6, op := Go.Op.load 9 (Go.Operand.tmp 5), type := 9, pos := "law.go:51", after := #[{ on := 2, ground := Go.Ground.data }], guard := none }) (v := ?_) rfl (by kernel_rfl) (by kernel_rfl) (by kernel_rfl) (fun _ _ _ h => h) (Or.inl ⟨by rfl, ?_⟩) (by assumption) ?_
  rotate_left
  · intro wS hSw
    (have c3 := pg_mk (hSw.blk HPD.out HNE.out); go_simp; (try with_reducible rfl))
  (try simp only [Act.put, List.setIfInBounds_toArray, List.set_cons_zero, List.set_cons_succ])
  refine wpAnyH_take (i := 4) (oi := { dst := some 7, op := Go.Op.fieldAddr 54 (Go.Operand.tmp 1) 2, type := 0, pos := "law.go:51", after := #[], guard := none }) (v := ?_) rfl (by kernel_rfl) (by kernel_rfl) (by kernel_rfl) (fun _ _ _ h => h) (Or.inl ⟨by rfl, ?_⟩) (by assumption) ?_
  rotate_left
  · intro wS hSw
    (try dsimp only at hSw)
    go_simp
    (try with_reducible rfl)
  (try simp only [Act.put, List.setIfInBounds_toArray, List.set_cons_zero, List.set_cons_succ])
  refine wpAnyH_take (i := 5) (oi := { dst := some 8, op := Go.Op.load 52 (Go.Operand.tmp 7), type := 52, pos := "law.go:51", after := #[{ on := 4, ground := Go.Ground.data }], guard := none }) (v := ?_) rfl (by kernel_rfl) (by kernel_rfl) (by kernel_rfl) (fun _ _ _ h => h) (Or.inl ⟨by rfl, ?_⟩) (by assumption) ?_
  rotate_left
  · intro wS hSw
    (have c4 := pg_sl (hSw.blk HPD.out HNE.out); go_simp; (try with_reducible rfl))
  (try simp only [Act.put, List.setIfInBounds_toArray, List.set_cons_zero, List.set_cons_succ])
  refine wpAnyH_ready (rs := [6]) (by kernel_rfl) (by simp) ?_
  refine AllReadyH.cons (o := { dst := some 9, op := Go.Op.call { callee := Go.Callee.value (Go.Operand.func 29), args := #[Go.Operand.tmp 8], argTypes := #[52] }, type := 29, pos := "law.go:51", after := #[{ on := 5, ground := Go.Ground.data }], guard := none }) rfl (fun K hK => ?_) AllReadyH.nil
  go_simp
  (refine (HGS.out WR (Below.refl _ _)).mono ?_; rintro e V1 ⟨ob, cb, rfl, h1, h2, h3, h4⟩; have HR := Lib.hid (show n ≤ cb ∧ cb ≤ maxLen ∧ Shs b2 V1 ob n S from ⟨h1, h2, h3⟩); have ho1 := Own.of_below (b := b2) h4; have HB1 := Lib.hid h4; clear h1 h2 h3 h4; skip)
  (try go_wp2_with fail)
  refine hK.out _ _ ?_ (fun hHeld => ?_)
  · (try dsimp only)
    (first | exact Own.refl _ _ | assumption)
  clear hK K
  (try simp only [Act.put, List.setIfInBounds_toArray, List.set_cons_zero, List.set_cons_succ])
  refine wpAnyH_ready (rs := [7]) (by kernel_rfl) (by simp) ?_
  refine AllReadyH.cons (o := { dst := some 10, op := Go.Op.build 36 #[(0, Go.Operand.tmp 4), (1, Go.Operand.tmp 6), (2, Go.Operand.tmp 9)], type := 36, pos := "law.go:51", after := #[{ on := 1, ground := Go.Ground.data }, { on := 3, ground := Go.Ground.data }, { on := 6, ground := Go.Ground.data }], guard := none }) rfl (fun K hK => ?_) AllReadyH.nil
  (refine step_valueG (v := .agg #[.int .i64 Kq, .int .i64 Nq, .int .u32 (gen : Int), .string mk, .slice ob n cb]) (by rfl) (exec_buildM (parts := #[(0, .tmp 4), (1, .tmp 6), (2, .tmp 9)]) (ps := #[(0, .agg #[.int .i64 Kq, .int .i64 Nq, .int .u32 (gen : Int)]), (1, .string mk), (2, .slice ob n cb)]) rfl (by first | rfl | (simp [Act.eval]) | (go_simp)) (build_pg3 Kq Nq gen mk ob n cb)) ?_; skip)
  refine hK.out _ _ ?_ (fun hHeld => ?_)
  · (try dsimp only)
    (first | exact Own.refl _ _ | assumption)
  clear hK K
  (try simp only [Act.put, List.setIfInBounds_toArray, List.set_cons_zero, List.set_cons_succ])
  refine wpAnyH_ready (rs := [8]) (by kernel_rfl) (by simp) ?_
  refine AllReadyH.cons (o := { dst := none, op := Go.Op.store 36 (Go.Operand.tmp 2) (Go.Operand.tmp 10), type := 0, pos := "law.go:51", after := #[{ on := 7, ground := Go.Ground.data }, { on := 6, ground := Go.Ground.chain }, { on := 0, ground := Go.Ground.phase }, { on := 1, ground := Go.Ground.phase }, { on := 2, ground := Go.Ground.phase }, { on := 3, ground := Go.Ground.phase }, { on := 4, ground := Go.Ground.phase }, { on := 5, ground := Go.Ground.phase }, { on := 6, ground := Go.Ground.phase }, { on := 7, ground := Go.Ground.phase }], guard := none }) rfl (fun K hK => ?_) AllReadyH.nil
  (have HZ1 := Lib.hid (Blk.below HZD.out HB1.out (Blk.lt HZD.out)); refine step_storeM rfl 36 (.tmp 2) (.tmp 10) rfl b2 0 #[.int .i64 Kq, .int .i64 Nq, .int .u32 (gen : Int), .string mk, .slice ob n cb] rfl rfl (HZ1.out.there (n := 5) (Nat.le_refl 5)) info_pg (one_pg _ _ _ _ _ _ _) ?_; have ho2 := ho1.trans (Own.setCells (b := b2) #[.int .i64 Kq, .int .i64 Nq, .int .u32 (gen : Int), .string mk, .slice ob n cb].toList 0 V1); skip)
  refine hK.out _ _ ?_ (fun hHeld => ?_)
  · (try dsimp only)
    (first | exact Own.refl _ _ | assumption)
  clear hK K
  (try simp only [Act.put, List.setIfInBounds_toArray, List.set_cons_zero, List.set_cons_succ])
  refine wpAnyH_done (by kernel_rfl) ?_ _
  go_wp2_with fail
  have HX : Hid (Blk (V1.setCells b2 0 [.int .i64 Kq, .int .i64 Nq, .int .u32 (gen : Int), .string mk, .slice ob n cb]) b2 #[.int .i64 Kq, .int .i64 Nq, .int .u32 (gen : Int), .string mk, .slice ob n cb] 36 ∧ Below w.heap.size w (V1.setCells b2 0 [.int .i64 Kq, .int .i64 Nq, .int .u32 (gen : Int), .string mk, .slice ob n cb])) := Lib.hid ⟨HZ1.out.whole5 rfl _ _ _ _ _, (HBD.out.trans (HB1.out.mono HBD.out.size)).trans ((Own.setCells (b := b2) _ 0 V1).below HLT.out (HBD.out.trans (HB1.out.mono HBD.out.size)).size)⟩
  have HQ : Hid (Shs b2 (V1.setCells b2 0 [.int .i64 Kq, .int .i64 Nq, .int .u32 (gen : Int), .string mk, .slice ob n cb]) ob n S ∧ b2 < (V1.setCells b2 0 [.int .i64 Kq, .int .i64 Nq, .int .u32 (gen : Int), .string mk, .slice ob n cb]).heap.size) := Lib.hid ⟨HR.out.2.2.own (Own.setCells (b := b2) _ 0 V1), Blk.lt HX.out.1⟩
  refine bodyPost_ret (v := .agg #[.int .i64 Kq, .int .i64 Nq, .int .u32 (gen : Int), .string mk, .slice ob n cb]) ?_ rfl ⟨b2, ob, cb, rfl, HR.out.1, HR.out.2.1, HQ.out.1, HQ.out.2, HX.out.2⟩
  exact results_cell_row Tryd.results14 _ _ b2 36 #[.int .i64 Kq, .int .i64 Nq, .int .u32 (gen : Int), .string mk, .slice ob n cb] (0, 0) _ rfl HX.out.1 Tryd.underlying36 rfl info_pg
end Go.Proofs.YtgiffaeckhhmpaaDoor
