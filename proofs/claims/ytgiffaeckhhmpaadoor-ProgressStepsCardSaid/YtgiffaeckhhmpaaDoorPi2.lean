/- A progress held against the document's: the same. -/
import Derived.Test.YtgiffaeckhhmpaaDoorPi1
import Derived.Test.YtgiffaeckhhmpaaDoorPg6
import Derived.Test.YtgiffaeckhhmpaaDoorSt0
namespace Go.Proofs.YtgiffaeckhhmpaaDoor
set_option linter.unusedVariables false
set_option linter.unusedSimpArgs false
open Go.RowKit
set_option maxRecDepth 100000 in
set_option maxHeartbeats 4000000 in
theorem isprog_any (tb : Nat) (K N : Int) (gen n ca cb : Nat) (mk : ByteArray) (oa ob : Option Addr) (S : Nat → Sh) (w : World) (hA : Shs tb w oa n S) (hB : Shs tb w ob n S) (hn : n ≤ 1000) :
    Calls Tryd.prog 18 #[.agg #[.int .i64 K, .int .i64 N, .int .u32 (gen : Int), .string mk, .slice oa n ca], .agg #[.int .i64 K, .int .i64 N, .int .u32 (gen : Int), .string mk, .slice ob n cb]] w fun e w' => e = .returned (.bool true) ∧ Below w.heap.size w w' := by
  obtain ⟨b3, hb3⟩ : ∃ y, w.heap.size + 1 = y := ⟨_, rfl⟩
  obtain ⟨w1, hw1⟩ : ∃ y, (w.alloc (.cells #[.int .i64 K, .int .i64 N, .int .u32 (gen : Int), .string mk, .slice oa n ca] 36)).alloc (.cells #[.int .i64 K, .int .i64 N, .int .u32 (gen : Int), .string mk, .slice ob n cb] 54) = y := ⟨_, rfl⟩
  have hbl : Below w.heap.size w w1 := by rw [← hw1]; exact ((Below.refl _ _).alloc (Nat.le_refl _) _).alloc (by simp) _
  have hP : Blk w1 w.heap.size #[.int .i64 K, .int .i64 N, .int .u32 (gen : Int), .string mk, .slice oa n ca] 36 := by rw [← hw1]; exact (Blk.new _ _ _).alloc _
  have hQ : Blk w1 b3 #[.int .i64 K, .int .i64 N, .int .u32 (gen : Int), .string mk, .slice ob n cb] 54 := by rw [← hw1, ← hb3]; simpa using Blk.new (w.alloc (.cells #[.int .i64 K, .int .i64 N, .int .u32 (gen : Int), .string mk, .slice oa n ca] 36)) #[.int .i64 K, .int .i64 N, .int .u32 (gen : Int), .string mk, .slice ob n cb] 54
  have HRP := Lib.hid (pg_plan hP)
  have HRQ := Lib.hid (pg_plan hQ)
  have m3 := pg_mk hP
  have m4 := pg_sl hP
  have q3 := pg_mk hQ
  have q4 := pg_sl hQ
  have HAS := Lib.hid (areshares0_any tb n ca cb oa ob S w1 (hA.later hbl) (hB.later hbl) hn)
  have HB1 := Lib.hid hbl
  have he := eq_plan K N (gen : Int) w1
  clear hP hQ hbl hA hB hn
  go_enter Tryd.func18, Tryd.ntmps18
  go_wp2_with (first
    | (refine wpList_value rfl (exec_loadM (x := .tmp 5) (cs := [.int .i64 K, .int .i64 N, .int .u32 (gen : Int)]) rfl rfl HRP.out Tryd.underlying26 rfl info_plan3) ?_)
    | (refine wpList_value rfl (exec_loadM (x := .tmp 7) (cs := [.int .i64 K, .int .i64 N, .int .u32 (gen : Int)]) rfl rfl HRQ.out Tryd.underlying51 rfl info_rplan3) ?_))
  refine HAS.out.mono ?_
  rintro e w2 ⟨rfl, hb⟩
  have HB2 := Lib.hid (HB1.out.trans (hb.mono HB1.out.size))
  clear hb
  go_wp2_with fail
  go_ret
  exact ⟨rfl, HB2.out⟩
end Go.Proofs.YtgiffaeckhhmpaaDoor
