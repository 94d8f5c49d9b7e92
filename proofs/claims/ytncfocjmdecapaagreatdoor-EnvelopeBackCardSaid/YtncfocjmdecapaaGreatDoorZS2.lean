/- Words turned; a block's words. A block's words, made. -/
import Derived.Test.YtncfocjmdecapaaGreatDoorZB0
import Derived.Test.YtncfocjmdecapaaGreatDoorZS1
namespace Go.Proofs.YtncfocjmdecapaaGreatDoor
set_option linter.unusedVariables false
set_option linter.unusedSimpArgs false
open Go.RowKit
theorem or_add {a b k : Nat} (hb : b < 2 ^ k) : (a * 2 ^ k) ||| b = a * 2 ^ k + b := by
  rw [Nat.mul_comm, ← Nat.two_pow_add_eq_or_of_lt hb a]
theorem u32_join {a b : Int} (k : Nat) (ha : 0 ≤ a) (hb : 0 ≤ b) (hbk : b < (2 ^ k : Nat)) (h : a * (2 ^ k : Nat) + b < 4294967296) : bits .or .u32 (a * (2 ^ k : Nat)) b = a * (2 ^ k : Nat) + b := by
  obtain ⟨n, rfl⟩ := Int.eq_ofNat_of_zero_le ha
  obtain ⟨m, rfl⟩ := Int.eq_ofNat_of_zero_le hb
  have h1 : m < 2 ^ k := by omega
  have h2 : ((n : Int) * ((2 ^ k : Nat) : Int)) = ((n * 2 ^ k : Nat) : Int) := (Int.natCast_mul _ _).symm
  rw [h2] at h ⊢
  rw [u32_or_nat _ _ (by omega) (by omega), or_add h1]; omega
theorem u32_join4 {y3 y2 y1 y0 : Int} (b3 : 0 ≤ y3 ∧ y3 < 256) (b2 : 0 ≤ y2 ∧ y2 < 256) (b1 : 0 ≤ y1 ∧ y1 < 256) (b0 : 0 ≤ y0 ∧ y0 < 256) :
    bits .or .u32 (bits .or .u32 (bits .or .u32 (y3 * 16777216) (y2 * 65536)) (y1 * 256)) y0 = y3 * 16777216 + y2 * 65536 + y1 * 256 + y0 := by
  have e1 := u32_join (a := y3) (b := y2 * 65536) 24 b3.1 (by omega) (by omega) (by omega)
  rw [show ((2 ^ 24 : Nat) : Int) = 16777216 from by decide] at e1
  have e2 := u32_join (a := y3 * 256 + y2) (b := y1 * 256) 16 (by omega) (by omega) (by omega) (by omega)
  rw [show ((2 ^ 16 : Nat) : Int) = 65536 from by decide, show (y3 * 256 + y2) * 65536 = y3 * 16777216 + y2 * 65536 from by omega] at e2
  have e3 := u32_join (a := y3 * 65536 + y2 * 256 + y1) (b := y0) 8 (by omega) (by omega) (by omega) (by omega)
  rw [show ((2 ^ 8 : Nat) : Int) = 256 from by decide, show (y3 * 65536 + y2 * 256 + y1) * 256 = y3 * 16777216 + y2 * 65536 + y1 * 256 from by omega] at e3
  rw [e1, e2, e3]

set_option maxHeartbeats 400000 in
theorem rl2_any (a : Nat) (w : World) (h : a < 4294967296) :
    Calls Tryz.prog 77 #[.int .u32 (a : Nat), .int .i64 (-2)] w fun e w' => e = .returned (.int .u32 (rorN 2 a : Nat)) ∧ w' = w := by
  have hb : bits .and .u64 (IntKind.u64.wrap (-2)) 31 = 30 := by decide
  have e1 : bits .or .u32 ((a : Int) * 1073741824 % 4294967296) ((a : Int) / 4) = (rorN 2 a : Nat) := by
    rw [show (a : Int) * 1073741824 % 4294967296 = ((a * 1073741824 % 4294967296 : Nat) : Int) from by omega, show (a : Int) / 4 = ((a / 4 : Nat) : Int) from by omega]
    exact u32_or_nat _ _ (Nat.mod_lt _ (by decide)) (by omega)
  have E1 := Lib.hid e1
  clear e1
  go_enter Tryz.func77, Tryz.ntmps77
  go_wp2
  go_ret
  exact ⟨by rw [E1.out]; rfl, rfl⟩
set_option maxHeartbeats 400000 in
theorem ror2_any (a : Nat) (w : World) (h : a < 4294967296) :
    Calls Tryz.prog 99 #[.int .u32 (a : Nat), .int .i64 2] w fun e w' => e = .returned (.int .u32 (rorN 2 a : Nat)) ∧ w' = w := by
  have HC := Lib.hid (rl2_any a w h)
  go_enter Tryz.func99, Tryz.ntmps99
  go_wp2_with fail
  refine HC.out.mono ?_
  rintro e w' ⟨rfl, rfl⟩
  go_wp2_with fail
  go_ret
  exact ⟨rfl, rfl⟩
set_option maxHeartbeats 400000 in
theorem rl6_any (a : Nat) (w : World) (h : a < 4294967296) :
    Calls Tryz.prog 77 #[.int .u32 (a : Nat), .int .i64 (-6)] w fun e w' => e = .returned (.int .u32 (rorN 6 a : Nat)) ∧ w' = w := by
  have hb : bits .and .u64 (IntKind.u64.wrap (-6)) 31 = 26 := by decide
  have e1 : bits .or .u32 ((a : Int) * 67108864 % 4294967296) ((a : Int) / 64) = (rorN 6 a : Nat) := by
    rw [show (a : Int) * 67108864 % 4294967296 = ((a * 67108864 % 4294967296 : Nat) : Int) from by omega, show (a : Int) / 64 = ((a / 64 : Nat) : Int) from by omega]
    exact u32_or_nat _ _ (Nat.mod_lt _ (by decide)) (by omega)
  have E1 := Lib.hid e1
  clear e1
  go_enter Tryz.func77, Tryz.ntmps77
  go_wp2
  go_ret
  exact ⟨by rw [E1.out]; rfl, rfl⟩
set_option maxHeartbeats 400000 in
theorem ror6_any (a : Nat) (w : World) (h : a < 4294967296) :
    Calls Tryz.prog 99 #[.int .u32 (a : Nat), .int .i64 6] w fun e w' => e = .returned (.int .u32 (rorN 6 a : Nat)) ∧ w' = w := by
  have HC := Lib.hid (rl6_any a w h)
  go_enter Tryz.func99, Tryz.ntmps99
  go_wp2_with fail
  refine HC.out.mono ?_
  rintro e w' ⟨rfl, rfl⟩
  go_wp2_with fail
  go_ret
  exact ⟨rfl, rfl⟩
set_option maxHeartbeats 400000 in
theorem rl7_any (a : Nat) (w : World) (h : a < 4294967296) :
    Calls Tryz.prog 77 #[.int .u32 (a : Nat), .int .i64 (-7)] w fun e w' => e = .returned (.int .u32 (rorN 7 a : Nat)) ∧ w' = w := by
  have hb : bits .and .u64 (IntKind.u64.wrap (-7)) 31 = 25 := by decide
  have e1 : bits .or .u32 ((a : Int) * 33554432 % 4294967296) ((a : Int) / 128) = (rorN 7 a : Nat) := by
    rw [show (a : Int) * 33554432 % 4294967296 = ((a * 33554432 % 4294967296 : Nat) : Int) from by omega, show (a : Int) / 128 = ((a / 128 : Nat) : Int) from by omega]
    exact u32_or_nat _ _ (Nat.mod_lt _ (by decide)) (by omega)
  have E1 := Lib.hid e1
  clear e1
  go_enter Tryz.func77, Tryz.ntmps77
  go_wp2
  go_ret
  exact ⟨by rw [E1.out]; rfl, rfl⟩
set_option maxHeartbeats 400000 in
theorem ror7_any (a : Nat) (w : World) (h : a < 4294967296) :
    Calls Tryz.prog 99 #[.int .u32 (a : Nat), .int .i64 7] w fun e w' => e = .returned (.int .u32 (rorN 7 a : Nat)) ∧ w' = w := by
  have HC := Lib.hid (rl7_any a w h)
  go_enter Tryz.func99, Tryz.ntmps99
  go_wp2_with fail
  refine HC.out.mono ?_
  rintro e w' ⟨rfl, rfl⟩
  go_wp2_with fail
  go_ret
  exact ⟨rfl, rfl⟩
set_option maxHeartbeats 400000 in
theorem rl11_any (a : Nat) (w : World) (h : a < 4294967296) :
    Calls Tryz.prog 77 #[.int .u32 (a : Nat), .int .i64 (-11)] w fun e w' => e = .returned (.int .u32 (rorN 11 a : Nat)) ∧ w' = w := by
  have hb : bits .and .u64 (IntKind.u64.wrap (-11)) 31 = 21 := by decide
  have e1 : bits .or .u32 ((a : Int) * 2097152 % 4294967296) ((a : Int) / 2048) = (rorN 11 a : Nat) := by
    rw [show (a : Int) * 2097152 % 4294967296 = ((a * 2097152 % 4294967296 : Nat) : Int) from by omega, show (a : Int) / 2048 = ((a / 2048 : Nat) : Int) from by omega]
    exact u32_or_nat _ _ (Nat.mod_lt _ (by decide)) (by omega)
  have E1 := Lib.hid e1
  clear e1
  go_enter Tryz.func77, Tryz.ntmps77
  go_wp2
  go_ret
  exact ⟨by rw [E1.out]; rfl, rfl⟩
set_option maxHeartbeats 400000 in
theorem ror11_any (a : Nat) (w : World) (h : a < 4294967296) :
    Calls Tryz.prog 99 #[.int .u32 (a : Nat), .int .i64 11] w fun e w' => e = .returned (.int .u32 (rorN 11 a : Nat)) ∧ w' = w := by
  have HC := Lib.hid (rl11_any a w h)
  go_enter Tryz.func99, Tryz.ntmps99
  go_wp2_with fail
  refine HC.out.mono ?_
  rintro e w' ⟨rfl, rfl⟩
  go_wp2_with fail
  go_ret
  exact ⟨rfl, rfl⟩
set_option maxHeartbeats 400000 in
theorem rl13_any (a : Nat) (w : World) (h : a < 4294967296) :
    Calls Tryz.prog 77 #[.int .u32 (a : Nat), .int .i64 (-13)] w fun e w' => e = .returned (.int .u32 (rorN 13 a : Nat)) ∧ w' = w := by
  have hb : bits .and .u64 (IntKind.u64.wrap (-13)) 31 = 19 := by decide
  have e1 : bits .or .u32 ((a : Int) * 524288 % 4294967296) ((a : Int) / 8192) = (rorN 13 a : Nat) := by
    rw [show (a : Int) * 524288 % 4294967296 = ((a * 524288 % 4294967296 : Nat) : Int) from by omega, show (a : Int) / 8192 = ((a / 8192 : Nat) : Int) from by omega]
    exact u32_or_nat _ _ (Nat.mod_lt _ (by decide)) (by omega)
  have E1 := Lib.hid e1
  clear e1
  go_enter Tryz.func77, Tryz.ntmps77
  go_wp2
  go_ret
  exact ⟨by rw [E1.out]; rfl, rfl⟩
set_option maxHeartbeats 400000 in
theorem ror13_any (a : Nat) (w : World) (h : a < 4294967296) :
    Calls Tryz.prog 99 #[.int .u32 (a : Nat), .int .i64 13] w fun e w' => e = .returned (.int .u32 (rorN 13 a : Nat)) ∧ w' = w := by
  have HC := Lib.hid (rl13_any a w h)
  go_enter Tryz.func99, Tryz.ntmps99
  go_wp2_with fail
  refine HC.out.mono ?_
  rintro e w' ⟨rfl, rfl⟩
  go_wp2_with fail
  go_ret
  exact ⟨rfl, rfl⟩
set_option maxHeartbeats 400000 in
theorem rl17_any (a : Nat) (w : World) (h : a < 4294967296) :
    Calls Tryz.prog 77 #[.int .u32 (a : Nat), .int .i64 (-17)] w fun e w' => e = .returned (.int .u32 (rorN 17 a : Nat)) ∧ w' = w := by
  have hb : bits .and .u64 (IntKind.u64.wrap (-17)) 31 = 15 := by decide
  have e1 : bits .or .u32 ((a : Int) * 32768 % 4294967296) ((a : Int) / 131072) = (rorN 17 a : Nat) := by
    rw [show (a : Int) * 32768 % 4294967296 = ((a * 32768 % 4294967296 : Nat) : Int) from by omega, show (a : Int) / 131072 = ((a / 131072 : Nat) : Int) from by omega]
    exact u32_or_nat _ _ (Nat.mod_lt _ (by decide)) (by omega)
  have E1 := Lib.hid e1
  clear e1
  go_enter Tryz.func77, Tryz.ntmps77
  go_wp2
  go_ret
  exact ⟨by rw [E1.out]; rfl, rfl⟩
set_option maxHeartbeats 400000 in
theorem ror17_any (a : Nat) (w : World) (h : a < 4294967296) :
    Calls Tryz.prog 99 #[.int .u32 (a : Nat), .int .i64 17] w fun e w' => e = .returned (.int .u32 (rorN 17 a : Nat)) ∧ w' = w := by
  have HC := Lib.hid (rl17_any a w h)
  go_enter Tryz.func99, Tryz.ntmps99
  go_wp2_with fail
  refine HC.out.mono ?_
  rintro e w' ⟨rfl, rfl⟩
  go_wp2_with fail
  go_ret
  exact ⟨rfl, rfl⟩
set_option maxHeartbeats 400000 in
theorem rl18_any (a : Nat) (w : World) (h : a < 4294967296) :
    Calls Tryz.prog 77 #[.int .u32 (a : Nat), .int .i64 (-18)] w fun e w' => e = .returned (.int .u32 (rorN 18 a : Nat)) ∧ w' = w := by
  have hb : bits .and .u64 (IntKind.u64.wrap (-18)) 31 = 14 := by decide
  have e1 : bits .or .u32 ((a : Int) * 16384 % 4294967296) ((a : Int) / 262144) = (rorN 18 a : Nat) := by
    rw [show (a : Int) * 16384 % 4294967296 = ((a * 16384 % 4294967296 : Nat) : Int) from by omega, show (a : Int) / 262144 = ((a / 262144 : Nat) : Int) from by omega]
    exact u32_or_nat _ _ (Nat.mod_lt _ (by decide)) (by omega)
  have E1 := Lib.hid e1
  clear e1
  go_enter Tryz.func77, Tryz.ntmps77
  go_wp2
  go_ret
  exact ⟨by rw [E1.out]; rfl, rfl⟩
set_option maxHeartbeats 400000 in
theorem ror18_any (a : Nat) (w : World) (h : a < 4294967296) :
    Calls Tryz.prog 99 #[.int .u32 (a : Nat), .int .i64 18] w fun e w' => e = .returned (.int .u32 (rorN 18 a : Nat)) ∧ w' = w := by
  have HC := Lib.hid (rl18_any a w h)
  go_enter Tryz.func99, Tryz.ntmps99
  go_wp2_with fail
  refine HC.out.mono ?_
  rintro e w' ⟨rfl, rfl⟩
  go_wp2_with fail
  go_ret
  exact ⟨rfl, rfl⟩
set_option maxHeartbeats 400000 in
theorem rl19_any (a : Nat) (w : World) (h : a < 4294967296) :
    Calls Tryz.prog 77 #[.int .u32 (a : Nat), .int .i64 (-19)] w fun e w' => e = .returned (.int .u32 (rorN 19 a : Nat)) ∧ w' = w := by
  have hb : bits .and .u64 (IntKind.u64.wrap (-19)) 31 = 13 := by decide
  have e1 : bits .or .u32 ((a : Int) * 8192 % 4294967296) ((a : Int) / 524288) = (rorN 19 a : Nat) := by
    rw [show (a : Int) * 8192 % 4294967296 = ((a * 8192 % 4294967296 : Nat) : Int) from by omega, show (a : Int) / 524288 = ((a / 524288 : Nat) : Int) from by omega]
    exact u32_or_nat _ _ (Nat.mod_lt _ (by decide)) (by omega)
  have E1 := Lib.hid e1
  clear e1
  go_enter Tryz.func77, Tryz.ntmps77
  go_wp2
  go_ret
  exact ⟨by rw [E1.out]; rfl, rfl⟩
set_option maxHeartbeats 400000 in
theorem ror19_any (a : Nat) (w : World) (h : a < 4294967296) :
    Calls Tryz.prog 99 #[.int .u32 (a : Nat), .int .i64 19] w fun e w' => e = .returned (.int .u32 (rorN 19 a : Nat)) ∧ w' = w := by
  have HC := Lib.hid (rl19_any a w h)
  go_enter Tryz.func99, Tryz.ntmps99
  go_wp2_with fail
  refine HC.out.mono ?_
  rintro e w' ⟨rfl, rfl⟩
  go_wp2_with fail
  go_ret
  exact ⟨rfl, rfl⟩
set_option maxHeartbeats 400000 in
theorem rl22_any (a : Nat) (w : World) (h : a < 4294967296) :
    Calls Tryz.prog 77 #[.int .u32 (a : Nat), .int .i64 (-22)] w fun e w' => e = .returned (.int .u32 (rorN 22 a : Nat)) ∧ w' = w := by
  have hb : bits .and .u64 (IntKind.u64.wrap (-22)) 31 = 10 := by decide
  have e1 : bits .or .u32 ((a : Int) * 1024 % 4294967296) ((a : Int) / 4194304) = (rorN 22 a : Nat) := by
    rw [show (a : Int) * 1024 % 4294967296 = ((a * 1024 % 4294967296 : Nat) : Int) from by omega, show (a : Int) / 4194304 = ((a / 4194304 : Nat) : Int) from by omega]
    exact u32_or_nat _ _ (Nat.mod_lt _ (by decide)) (by omega)
  have E1 := Lib.hid e1
  clear e1
  go_enter Tryz.func77, Tryz.ntmps77
  go_wp2
  go_ret
  exact ⟨by rw [E1.out]; rfl, rfl⟩
set_option maxHeartbeats 400000 in
theorem ror22_any (a : Nat) (w : World) (h : a < 4294967296) :
    Calls Tryz.prog 99 #[.int .u32 (a : Nat), .int .i64 22] w fun e w' => e = .returned (.int .u32 (rorN 22 a : Nat)) ∧ w' = w := by
  have HC := Lib.hid (rl22_any a w h)
  go_enter Tryz.func99, Tryz.ntmps99
  go_wp2_with fail
  refine HC.out.mono ?_
  rintro e w' ⟨rfl, rfl⟩
  go_wp2_with fail
  go_ret
  exact ⟨rfl, rfl⟩
set_option maxHeartbeats 400000 in
theorem rl25_any (a : Nat) (w : World) (h : a < 4294967296) :
    Calls Tryz.prog 77 #[.int .u32 (a : Nat), .int .i64 (-25)] w fun e w' => e = .returned (.int .u32 (rorN 25 a : Nat)) ∧ w' = w := by
  have hb : bits .and .u64 (IntKind.u64.wrap (-25)) 31 = 7 := by decide
  have e1 : bits .or .u32 ((a : Int) * 128 % 4294967296) ((a : Int) / 33554432) = (rorN 25 a : Nat) := by
    rw [show (a : Int) * 128 % 4294967296 = ((a * 128 % 4294967296 : Nat) : Int) from by omega, show (a : Int) / 33554432 = ((a / 33554432 : Nat) : Int) from by omega]
    exact u32_or_nat _ _ (Nat.mod_lt _ (by decide)) (by omega)
  have E1 := Lib.hid e1
  clear e1
  go_enter Tryz.func77, Tryz.ntmps77
  go_wp2
  go_ret
  exact ⟨by rw [E1.out]; rfl, rfl⟩
set_option maxHeartbeats 400000 in
theorem ror25_any (a : Nat) (w : World) (h : a < 4294967296) :
    Calls Tryz.prog 99 #[.int .u32 (a : Nat), .int .i64 25] w fun e w' => e = .returned (.int .u32 (rorN 25 a : Nat)) ∧ w' = w := by
  have HC := Lib.hid (rl25_any a w h)
  go_enter Tryz.func99, Tryz.ntmps99
  go_wp2_with fail
  refine HC.out.mono ?_
  rintro e w' ⟨rfl, rfl⟩
  go_wp2_with fail
  go_ret
  exact ⟨rfl, rfl⟩
end Go.Proofs.YtncfocjmdecapaaGreatDoor
namespace Go.Proofs.YtncfocjmdecapaaGreatDoor
set_option linter.unusedVariables false
set_option linter.unusedSimpArgs false
open Go.RowKit
def zero64w : Array Value := (rowW 64 (fun _ => 0)).toArray
theorem zero64w_run (w : World) : (zeroValue 168).run Tryz.prog w = .ok (.agg zero64w) w := by kernel_rfl
theorem info70 (v : Nat → Nat) : (Tryz.prog.info? 168).map (·.size) = some (rowW 64 v).toArray.size := by rw [rowW_size]; kernel_rfl
theorem one64w (v : Nat → Nat) : (rowW 64 v).toArray.all (·.oneCell') = true := all_oneCell_toArray (rowW_one _ _)
/-- While words are made. -/
structure SPR (w0 : World) (b : Nat → Nat) (n : Nat) (wr : World) : Prop where
  s : RB 124 64 w0.heap.size b wr
  r : WB 168 64 (w0.heap.size + 1) (fun _ => 0) wr
  y : WB 168 64 (w0.heap.size + 1 + 1) (fun t => if t < n then spK b 64 t else 0) wr
  o : Below w0.heap.size w0 wr
theorem SPR.start (b : Nat → Nat) (w : World) : SPR w b 0 (((w.alloc (.cells (rowC 64 b).toArray 124)).alloc (.cells zero64w 168)).alloc (.cells zero64w 168)) := by
  refine ⟨((Blk.new w _ 124).alloc _).alloc _, ?_, ?_, (((Below.refl _ _).alloc (Nat.le_refl _) _).alloc (by simp) _).alloc (by simp; omega) _⟩
  · have := (Blk.new (w.alloc (.cells (rowC 64 b).toArray 124)) zero64w 168).alloc (.cells zero64w 168)
    show Blk _ _ zero64w _; simpa using this
  · have := Blk.new ((w.alloc (.cells (rowC 64 b).toArray 124)).alloc (.cells zero64w 168)) zero64w 168
    refine WB.congr (f := fun _ => 0) ?_ fun i _ => (if_neg (Nat.not_lt_zero _)).symm
    show Blk _ _ zero64w _; simpa using this
theorem SPR.below {w0 : World} {b : Nat → Nat} {n : Nat} {wr w' : World} (h : SPR w0 b n wr) (hb : Below wr.heap.size wr w') : SPR w0 b n w' :=
  ⟨Blk.below h.s hb (Blk.lt h.s), Blk.below h.r hb (Blk.lt h.r), Blk.below h.y hb (Blk.lt h.y), h.o.trans (hb.mono h.o.size)⟩
theorem SPR.drew {w0 : World} {b : Nat → Nat} {n : Nat} {wr : World} (h : SPR w0 b n wr) : SPR w0 b n wr.drew := h.below (Below.refl _ wr).drew
theorem SPR.set {w0 : World} {b : Nat → Nat} {n x : Nat} {wr : World} (h : SPR w0 b n wr) (hx : spK b 64 n = x) : SPR w0 b (n + 1) (wr.setCell ⟨w0.heap.size + 1 + 1, n, none⟩ (.int .u32 (x : Nat))) := by
  refine ⟨Blk.set_other h.s (by simp; omega) _, Blk.set_other h.r (by simp) _, (h.y.set n x).congr fun j _ => ?_, h.o.setCell (by simp; omega) _⟩
  unfold upd
  by_cases e : j = n
  · rw [if_pos e, e, if_pos (by omega), hx]
  · rw [if_neg e]
    show (if j < n then spK b 64 j else 0) = if j < n + 1 then spK b 64 j else 0
    by_cases h5 : j < n
    · rw [if_pos h5, if_pos (by omega)]
    · rw [if_neg h5, if_neg (by omega)]
theorem SPR.word {w0 : World} {b : Nat → Nat} {n i x : Nat} {wr : World} (h : SPR w0 b n wr) (hi : i < n) (hn : n ≤ 64) (hx : spK b 64 i = x) : wr.cell? ⟨w0.heap.size + 1 + 1, i, none⟩ = some (.int .u32 (x : Nat)) :=
  h.y.val (by omega) (by rw [← hx]; exact if_pos hi)
theorem SPR.none {w0 : World} {b : Nat → Nat} {n : Nat} {wr : World} (h : SPR w0 b n wr) (hn : n < 64) : wr.cell? ⟨w0.heap.size + 1 + 1, n, none⟩ = some (.int .u32 0) :=
  h.y.val hn (if_neg (Nat.lt_irrefl _))
set_option maxRecDepth 100000 in
set_option maxHeartbeats 4000000 in
theorem spread_any (b : Nat → Nat) (w : World) (hb : ∀ i, i < 64 → b i < 256) :
    Calls Tryz.prog 98 #[.agg (rowC 64 b).toArray] w fun e w' => e = .returned (.agg (rowW 64 (spK b 64)).toArray) ∧ Below w.heap.size w w' := by
  have hz := zero64w_run
  have HT := Lib.hid (SPR.start b w)
  obtain ⟨C, hC⟩ : ∃ C, (rowC 64 b).toArray = C := ⟨_, rfl⟩
  have HB8 := Lib.hid hb
  have HL := Lib.hid (fun t => spK_lt hb 64 t)
  rw [hC] at HT ⊢
  clear hb hC
  go_enter Tryz.func98, Tryz.ntmps98
  go_wp2_with fail
  clear hz
  go_loopw [8] (fun v wr => ∃ i : Nat, i ≤ 16 ∧ v = .int .i64 (i : Int) ∧ SPR w b i wr) (fun v _ => 16 - (intOf v).toNat)
  case atStart => exact ⟨0, Nat.zero_le _, rfl, HT.out⟩
  case round =>
    clear HT
    obtain ⟨i, hi, rfl, hW⟩ := hrel
    have HW := Lib.hid hW
    clear hW
    by_cases hlt : i < 16
    · have i0 : (0 : Int) ≤ (i : Int) := by omega
      have i1 : (i : Int) < 16 := by omega
      have i6 : (i : Int) < 64 := by omega
      obtain ⟨j0, hj0⟩ : ∃ j, 4 * i = j := ⟨_, rfl⟩
      obtain ⟨j1, hj1⟩ : ∃ j, j0 + 1 = j := ⟨_, rfl⟩
      obtain ⟨j2, hj2⟩ : ∃ j, j0 + 2 = j := ⟨_, rfl⟩
      obtain ⟨j3, hj3⟩ : ∃ j, j0 + 3 = j := ⟨_, rfl⟩
      have k0 := wrn (m := 4) rfl hj0 (by omega)
      have k1 := wrk (m := 1) rfl hj1 (by omega)
      have k2 := wrk (m := 2) rfl hj2 (by omega)
      have k3 := wrk (m := 3) rfl hj3 (by omega)
      obtain ⟨a0, b0⟩ : (0 : Int) ≤ (j0 : Int) ∧ (j0 : Int) < 64 := by omega
      obtain ⟨a1, b1⟩ : (0 : Int) ≤ (j1 : Int) ∧ (j1 : Int) < 64 := by omega
      obtain ⟨a2, b2⟩ : (0 : Int) ≤ (j2 : Int) ∧ (j2 : Int) < 64 := by omega
      obtain ⟨a3, b3⟩ : (0 : Int) ≤ (j3 : Int) ∧ (j3 : Int) < 64 := by omega
      have HP := HW.out.drew
      have hkw : spK b 64 i = b j0 * 16777216 + b j1 * 65536 + b j2 * 256 + b j3 := by
        rw [spK_lo b hlt]; unfold wd; rw [← hj1, ← hj2, ← hj3, ← hj0]
      have l0 := HB8.out j0 (by omega)
      have l1 := HB8.out j1 (by omega)
      have l2 := HB8.out j2 (by omega)
      have l3 := HB8.out j3 (by omega)
      have q0 := HP.s.cell (i := j0) (by omega)
      have q1 := HP.s.cell (i := j1) (by omega)
      have q2 := HP.s.cell (i := j2) (by omega)
      have q3 := HP.s.cell (i := j3) (by omega)
      generalize b j0 = x0 at *
      generalize b j1 = x1 at *
      generalize b j2 = x2 at *
      generalize b j3 = x3 at *
      have c0 : IntKind.u32.wrap (x0 : Int) = (x0 : Int) := by rw [IntKind.wrap_u32]; omega
      have c1 : IntKind.u32.wrap (x1 : Int) = (x1 : Int) := by rw [IntKind.wrap_u32]; omega
      have c2 : IntKind.u32.wrap (x2 : Int) = (x2 : Int) := by rw [IntKind.wrap_u32]; omega
      have c3 : IntKind.u32.wrap (x3 : Int) = (x3 : Int) := by rw [IntKind.wrap_u32]; omega
      have d0 : IntKind.u32.wrap ((x0 : Int) * 16777216) = (x0 : Int) * 16777216 := by rw [IntKind.wrap_u32]; omega
      have d1 : IntKind.u32.wrap ((x1 : Int) * 65536) = (x1 : Int) * 65536 := by rw [IntKind.wrap_u32]; omega
      have d2 : IntKind.u32.wrap ((x2 : Int) * 256) = (x2 : Int) * 256 := by rw [IntKind.wrap_u32]; omega
      have e4 := u32_join4 (y3 := (x0 : Int)) (y2 := x1) (y1 := x2) (y0 := x3) (by omega) (by omega) (by omega) (by omega)
      obtain ⟨V, hV⟩ : ∃ V, spK b 64 i = V := ⟨_, rfl⟩
      rw [hV] at hkw
      have e5 : (x0 : Int) * 16777216 + (x1 : Int) * 65536 + (x2 : Int) * 256 + (x3 : Int) = (V : Int) := by omega
      rw [e5] at e4
      have c8 := HP.none (show i < 64 by omega)
      have z8 : wr.drew.frozen? ⟨w.heap.size + 1 + 1, i, none⟩ = false := HP.y.free _
      have HN := Lib.hid (HP.set hV)
      clear e5 hkw l0 l1 l2 l3 hV hj0 hj1 hj2 hj3 HP hlt hi HW
      go_wp2_with fail
      refine still_tail 31 (by kernel_rfl) (by kernel_rfl) ?_
      simp only [List.take_succ_cons, List.take_zero, List.drop_succ_cons, List.drop_zero]
      generalize wr.drew = W0 at *
      repeat still_step
      refine wpStill_nil ?_
      clear k0 k1 k2 k3
      go_wp2_with fail
      go_roundw
      case rel => exact ⟨i + 1, by omega, by go_num, HN.out⟩
      case measure => simp [intOf] <;> omega
    · obtain rfl : i = 16 := by omega
      clear hi hlt
      rw [show ((16 : Nat) : Int) = 16 from rfl]
      go_wp2_with fail
      go_loopw [5] (fun v wr => ∃ t : Nat, 16 ≤ t ∧ t ≤ 64 ∧ v = .int .i64 (t : Int) ∧ SPR w b t wr) (fun v _ => 64 - (intOf v).toNat)
      case atStart => exact ⟨16, by decide, by decide, rfl, HW.out⟩
      case round =>
        clear HW
        obtain ⟨t, ht, ht6, rfl, hW⟩ := hrel
        have HW := Lib.hid hW
        clear hW
        by_cases hlt : t < 64
        · have t0 : (0 : Int) ≤ (t : Int) := by omega
          have t1 : (t : Int) < 64 := by omega
          have t16 : (16 : Int) ≤ (t : Int) := by omega
          obtain ⟨p, hp⟩ : ∃ p, t = p + 15 := ⟨t - 15, by omega⟩
          obtain ⟨q, hq⟩ : ∃ p, t = p + 2 := ⟨t - 2, by omega⟩
          obtain ⟨r, hr⟩ : ∃ p, t = p + 7 := ⟨t - 7, by omega⟩
          obtain ⟨s, hs⟩ : ∃ p, t = p + 16 := ⟨t - 16, by omega⟩
          have m1 := wrb (m := 15) rfl hp (by omega)
          have m2 := wrb (m := 2) rfl hq (by omega)
          have m3 := wrb (m := 7) rfl hr (by omega)
          have m4 := wrb (m := 16) rfl hs (by omega)
          obtain ⟨p0, p1⟩ : (0 : Int) ≤ (p : Int) ∧ (p : Int) < 64 := by omega
          obtain ⟨q0, q1⟩ : (0 : Int) ≤ (q : Int) ∧ (q : Int) < 64 := by omega
          obtain ⟨r0, r1⟩ : (0 : Int) ≤ (r : Int) ∧ (r : Int) < 64 := by omega
          obtain ⟨s0, s1⟩ : (0 : Int) ≤ (s : Int) ∧ (s : Int) < 64 := by omega
          have hre := spK_hi b ht hlt
          unfold spS at hre
          rw [show t - 2 = q by omega, show t - 7 = r by omega, show t - 15 = p by omega, show t - 16 = s by omega] at hre
          obtain ⟨x, hx⟩ : ∃ x, spK b 64 p = x := ⟨_, rfl⟩
          obtain ⟨y, hy⟩ : ∃ x, spK b 64 q = x := ⟨_, rfl⟩
          obtain ⟨u, hu⟩ : ∃ x, spK b 64 r = x := ⟨_, rfl⟩
          obtain ⟨z, hz⟩ : ∃ x, spK b 64 s = x := ⟨_, rfl⟩
          obtain ⟨V, hV⟩ : ∃ x, spK b 64 t = x := ⟨_, rfl⟩
          have lx : x < 4294967296 := hx ▸ HL.out p
          have ly : y < 4294967296 := hy ▸ HL.out q
          have lu : u < 4294967296 := hu ▸ HL.out r
          have lz : z < 4294967296 := hz ▸ HL.out s
          rw [hx, hy, hu, hz, hV] at hre
          have HP := Lib.hid HW.out.drew
          have cx : wr.drew.cell? ⟨w.heap.size + 1 + 1, p, none⟩ = some (.int .u32 (x : Nat)) := HP.out.word (by omega) ht6 hx
          have cy : wr.drew.cell? ⟨w.heap.size + 1 + 1, q, none⟩ = some (.int .u32 (y : Nat)) := HP.out.word (by omega) ht6 hy
          have HU : Hid (spK b 64 r = u ∧ spK b 64 s = z ∧ r < t ∧ s < t ∧ t < 64) := Lib.hid ⟨hu, hz, by omega, by omega, hlt⟩
          have HVV := Lib.hid hV
          have hX7 := ror7_any x
          have R7 := Lib.hid (fun w' => ror7_any x w' lx)
          have R18 := Lib.hid (fun w' => ror18_any x w' lx)
          have R17 := Lib.hid (fun w' => ror17_any y w' ly)
          have R19 := Lib.hid (fun w' => ror19_any y w' ly)
          have x3 : (x : Int) / 8 = ((x / 8 : Nat) : Int) := by omega
          have y3 : (y : Int) / 1024 = ((y / 1024 : Nat) : Int) := by omega
          have w3 : IntKind.u32.wrap ((x / 8 : Nat) : Int) = ((x / 8 : Nat) : Int) := by rw [IntKind.wrap_u32]; omega
          have w4 : IntKind.u32.wrap ((y / 1024 : Nat) : Int) = ((y / 1024 : Nat) : Int) := by rw [IntKind.wrap_u32]; omega
          have f1 : bits .xor .u32 (rorN 7 x : Nat) (rorN 18 x : Nat) = ((rorN 7 x ^^^ rorN 18 x : Nat) : Int) := u32_xor_nat _ _ (rorN_lt lx) (rorN_lt lx)
          have f2 : bits .xor .u32 ((rorN 7 x ^^^ rorN 18 x : Nat) : Int) ((x / 8 : Nat) : Int) = ((sg0 x : Nat) : Int) := u32_xor_nat _ _ (xor32 (rorN_lt lx) (rorN_lt lx)) (by omega)
          have g1 : bits .xor .u32 (rorN 17 y : Nat) (rorN 19 y : Nat) = ((rorN 17 y ^^^ rorN 19 y : Nat) : Int) := u32_xor_nat _ _ (rorN_lt ly) (rorN_lt ly)
          have g2 : bits .xor .u32 ((rorN 17 y ^^^ rorN 19 y : Nat) : Int) ((y / 1024 : Nat) : Int) = ((sg1 y : Nat) : Int) := u32_xor_nat _ _ (xor32 (rorN_lt ly) (rorN_lt ly)) (by omega)
          have l0 := sg0_lt lx
          have l1 := sg1_lt ly
          clear hX7
          generalize rorN 7 x ^^^ rorN 18 x = o1 at *
          generalize rorN 17 y ^^^ rorN 19 y = o2 at *
          generalize rorN 7 x = o3 at *
          generalize rorN 18 x = o4 at *
          generalize rorN 17 y = o5 at *
          generalize rorN 19 y = o6 at *
          generalize sg0 x = S0 at *
          generalize sg1 y = S1 at *
          generalize x / 8 = x8 at *
          generalize y / 1024 = y8 at *
          obtain ⟨v1, hv1⟩ : ∃ v, (S1 + u) % 4294967296 = v := ⟨_, rfl⟩
          obtain ⟨v2, hv2⟩ : ∃ v, (v1 + S0) % 4294967296 = v := ⟨_, rfl⟩
          have h1 := u32m (S1 : Int) (u : Int) rfl rfl hv1
          have h2 := u32m (v1 : Int) (S0 : Int) rfl rfl hv2
          have h3 := u32m (v2 : Int) (z : Int) (e := V) rfl rfl (by omega)
          have HH1 := Lib.hid h1
          have HH2 := Lib.hid h2
          have HH3 := Lib.hid h3
          clear hv1 hv2 hre h1 h2 h3 lx ly lu lz l0 l1 hx hy hu hz hV hp hq hr hs ht ht6 hlt HW
          go_wp2_with fail
          refine still_lit (by kernel_rfl) (by kernel_rfl) ?_
          generalize wr.drew = W0 at *
          repeat still_step
          refine wpStill_step (fun K hK => ?_)
          go_simp
          with_reducible refine ⟨_, R7.out _, hK _ ?_⟩
          clear hK K
          repeat still_step
          refine wpStill_step (fun K hK => ?_)
          go_simp
          with_reducible refine ⟨_, R18.out _, hK _ ?_⟩
          clear hK K
          repeat still_step
          refine wpStill_nil ?_
          clear cx R7 R18
          go_wp2_with fail
          have HP1 := Lib.hid HP.out.drew
          have cy' : W0.drew.cell? ⟨w.heap.size + 1 + 1, q, none⟩ = some (.int .u32 (y : Nat)) := cy
          clear HP cy
          refine still_lit (by kernel_rfl) (by kernel_rfl) ?_
          generalize W0.drew = W1 at *
          repeat still_step
          refine wpStill_step (fun K hK => ?_)
          go_simp
          with_reducible refine ⟨_, R17.out _, hK _ ?_⟩
          clear hK K
          repeat still_step
          refine wpStill_step (fun K hK => ?_)
          go_simp
          with_reducible refine ⟨_, R19.out _, hK _ ?_⟩
          clear hK K
          repeat still_step
          refine wpStill_nil ?_
          clear cy' R17 R19
          go_wp2_with fail
          have HP2 := Lib.hid HP1.out.drew
          clear HP1
          have cu : W1.drew.cell? ⟨w.heap.size + 1 + 1, r, none⟩ = some (.int .u32 (u : Nat)) := HP2.out.word HU.out.2.2.1 (Nat.le_of_lt HU.out.2.2.2.2) HU.out.1
          have cz : W1.drew.cell? ⟨w.heap.size + 1 + 1, s, none⟩ = some (.int .u32 (z : Nat)) := HP2.out.word HU.out.2.2.2.1 (Nat.le_of_lt HU.out.2.2.2.2) HU.out.2.1
          have c8 := HP2.out.none HU.out.2.2.2.2
          have z8 : W1.drew.frozen? ⟨w.heap.size + 1 + 1, t, none⟩ = false := HP2.out.y.free _
          have HN := Lib.hid (HP2.out.set HVV.out)
          have h1 := HH1.out
          have h2 := HH2.out
          have h3 := HH3.out
          clear HP2 HH1 HH2 HH3
          refine still_tail 15 (by kernel_rfl) (by kernel_rfl) ?_
          simp only [List.take_succ_cons, List.take_zero, List.drop_succ_cons, List.drop_zero]
          generalize W1.drew = W2 at *
          repeat still_step
          refine wpStill_nil ?_
          clear cu cz m1 m2 m3 m4 h1 h2 h3
          go_wp2_with fail
          have h64 := HU.out.2.2.2.2
          go_roundw
          case rel => exact ⟨t + 1, by omega, by omega, by go_num, HN.out⟩
          case measure => simp [intOf] <;> omega
        · obtain rfl : t = 64 := by omega
          have hY : WB 168 64 (w.heap.size + 1 + 1) (spK b 64) wr := HW.out.y.congr fun j hj => if_pos hj
          have hN : WB 168 64 (w.heap.size + 1) (spK b 64) (wr.setCells (w.heap.size + 1) 0 (rowW 64 (spK b 64)).toArray.toList) := Blk.setCells HW.out.r (rowW 64 (spK b 64)) (by rw [rowW_size, rowW_len])
          have hO : Below w.heap.size w (wr.setCells (w.heap.size + 1) 0 (rowW 64 (spK b 64)).toArray.toList) := HW.out.o.trans ((Own.setCells _ 0 wr).below (by omega) HW.out.o.size)
          have hTH : wr.there (w.heap.size + 1) 0 (rowW 64 (spK b 64)).toArray.size := Blk.there HW.out.r (by rw [rowW_size, rowW_size]; exact Nat.le_refl _)
          have hI := info70 (spK b 64)
          have hI1 := one64w (spK b 64)
          obtain ⟨E, hE⟩ : ∃ C, (rowW 64 (spK b 64)).toArray = C := ⟨_, rfl⟩
          unfold WB at hN hY
          rw [hE] at hN hY hO hTH hI hI1
          have HN := Lib.hid hN
          have HY := Lib.hid hY
          have HO := Lib.hid hO
          have HTH := Lib.hid hTH
          have HI := Lib.hid hI
          have HI1 := Lib.hid hI1
          have HE := Lib.hid hE
          clear hN hY hO hTH hI hI1 hE hlt ht ht6 HW
          go_wp2_with (first
            | (refine wpList_load_row rfl 168 (.tmp 3) rfl (w.heap.size + 1 + 1) rfl 168 E (0, 0) _ HY.out Tryz.underlying168 rfl HI.out ?_)
            | (refine wpList_store_mid rfl 168 (.tmp 2) (.tmp 96) rfl (w.heap.size + 1) 0 E rfl rfl HTH.out HI.out HI1.out ?_))
          refine bodyPost_ret (v := .agg E) ?_ rfl ⟨by rw [HE.out], HO.out⟩
          exact results_cell_row Tryz.results98 _ _ (w.heap.size + 1) 168 E (0, 0) _ rfl HN.out Tryz.underlying168 rfl HI.out
end Go.Proofs.YtncfocjmdecapaaGreatDoor
