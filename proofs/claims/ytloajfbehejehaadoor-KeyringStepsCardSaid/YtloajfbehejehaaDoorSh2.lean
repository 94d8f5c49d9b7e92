/- Words turned; a block's words. -/
import Derived.Test.YtloajfbehejehaaDoorSh1
import Derived.Test.YtloajfbehejehaaDoorNm
namespace Go.Proofs.YtloajfbehejehaaDoor
set_option linter.unusedVariables false
set_option linter.unusedSimpArgs false
open Go.RowKit

theorem or_add {a b k : Nat} (hb : b < 2 ^ k) : (a * 2 ^ k) ||| b = a * 2 ^ k + b := by
  rw [Nat.mul_comm, ← Nat.two_pow_add_eq_or_of_lt hb a]
theorem u32_join {a b : Int} (k : Nat) (ha : 0 ≤ a) (hb : 0 ≤ b) (hbk : b < (2 ^ k : Nat)) (h : a * (2 ^ k : Nat) + b < 4294967296) : bits .or .u32 (a * (2 ^ k : Nat)) b = a * (2 ^ k : Nat) + b := by
  obtain ⟨n, rfl⟩ := Int.eq_ofNat_of_zero_le ha
  obtain ⟨m, rfl⟩ := Int.eq_ofNat_of_zero_le hb
  have h1 : m < 2 ^ k := by omega
  have h2 : ((n : Int) * ((2 ^ k : Nat) : Int)) = ((n * 2 ^ k : Nat) : Int) := (Int.natCast_mul _ _).symm
  rw [h2] at h ⊢
  rw [u32_or_nat _ _ (by omega) (by omega), or_add h1]; omega
theorem u32_join4 {y3 y2 y1 y0 : Int} (b3 : 0 ≤ y3 ∧ y3 < 256) (b2 : 0 ≤ y2 ∧ y2 < 256) (b1 : 0 ≤ y1 ∧ y1 < 256) (b0 : 0 ≤ y0 ∧ y0 < 256) :
    bits .or .u32 (bits .or .u32 (bits .or .u32 (y3 * 16777216) (y2 * 65536)) (y1 * 256)) y0 = y3 * 16777216 + y2 * 65536 + y1 * 256 + y0 := by
  have e1 := u32_join (a := y3) (b := y2 * 65536) 24 b3.1 (by omega) (by omega) (by omega)
  rw [show ((2 ^ 24 : Nat) : Int) = 16777216 from by decide] at e1
  have e2 := u32_join (a := y3 * 256 + y2) (b := y1 * 256) 16 (by omega) (by omega) (by omega) (by omega)
  rw [show ((2 ^ 16 : Nat) : Int) = 65536 from by decide, show (y3 * 256 + y2) * 65536 = y3 * 16777216 + y2 * 65536 from by omega] at e2
  have e3 := u32_join (a := y3 * 65536 + y2 * 256 + y1) (b := y0) 8 (by omega) (by omega) (by omega) (by omega)
  rw [show ((2 ^ 8 : Nat) : Int) = 256 from by decide, show (y3 * 65536 + y2 * 256 + y1) * 256 = y3 * 16777216 + y2 * 65536 + y1 * 256 from by omega] at e3
  rw [e1, e2, e3]

set_option maxHeartbeats 400000 in
theorem rl2_any (a : Nat) (w : World) (h : a < 4294967296) :
    Calls Tryd.prog 55 #[.int .u32 (a : Nat), .int .i64 (-2)] w fun e w' => e = .returned (.int .u32 (rorN 2 a : Nat)) ∧ w' = w := by
  have hb : bits .and .u64 (IntKind.u64.wrap (-2)) 31 = 30 := by decide
  have e1 : bits .or .u32 ((a : Int) * 1073741824 % 4294967296) ((a : Int) / 4) = (rorN 2 a : Nat) := by
    rw [show (a : Int) * 1073741824 % 4294967296 = ((a * 1073741824 % 4294967296 : Nat) : Int) from by omega, show (a : Int) / 4 = ((a / 4 : Nat) : Int) from by omega]
    exact u32_or_nat _ _ (Nat.mod_lt _ (by decide)) (by omega)
  have E1 := Lib.hid e1
  clear e1
  go_enter Tryd.func55, Tryd.ntmps55
  go_wp2
  go_ret
  exact ⟨by rw [E1.out]; rfl, rfl⟩
set_option maxHeartbeats 400000 in
theorem ror2_any (a : Nat) (w : World) (h : a < 4294967296) :
    Calls Tryd.prog 52 #[.int .u32 (a : Nat), .int .i64 2] w fun e w' => e = .returned (.int .u32 (rorN 2 a : Nat)) ∧ w' = w := by
  have HC := Lib.hid (rl2_any a w h)
  go_enter Tryd.func52, Tryd.ntmps52
  go_wp2_with fail
  refine HC.out.mono ?_
  rintro e w' ⟨rfl, rfl⟩
  go_wp2_with fail
  go_ret
  exact ⟨rfl, rfl⟩
set_option maxHeartbeats 400000 in
theorem rl6_any (a : Nat) (w : World) (h : a < 4294967296) :
    Calls Tryd.prog 55 #[.int .u32 (a : Nat), .int .i64 (-6)] w fun e w' => e = .returned (.int .u32 (rorN 6 a : Nat)) ∧ w' = w := by
  have hb : bits .and .u64 (IntKind.u64.wrap (-6)) 31 = 26 := by decide
  have e1 : bits .or .u32 ((a : Int) * 67108864 % 4294967296) ((a : Int) / 64) = (rorN 6 a : Nat) := by
    rw [show (a : Int) * 67108864 % 4294967296 = ((a * 67108864 % 4294967296 : Nat) : Int) from by omega, show (a : Int) / 64 = ((a / 64 : Nat) : Int) from by omega]
    exact u32_or_nat _ _ (Nat.mod_lt _ (by decide)) (by omega)
  have E1 := Lib.hid e1
  clear e1
  go_enter Tryd.func55, Tryd.ntmps55
  go_wp2
  go_ret
  exact ⟨by rw [E1.out]; rfl, rfl⟩
set_option maxHeartbeats 400000 in
theorem ror6_any (a : Nat) (w : World) (h : a < 4294967296) :
    Calls Tryd.prog 52 #[.int .u32 (a : Nat), .int .i64 6] w fun e w' => e = .returned (.int .u32 (rorN 6 a : Nat)) ∧ w' = w := by
  have HC := Lib.hid (rl6_any a w h)
  go_enter Tryd.func52, Tryd.ntmps52
  go_wp2_with fail
  refine HC.out.mono ?_
  rintro e w' ⟨rfl, rfl⟩
  go_wp2_with fail
  go_ret
  exact ⟨rfl, rfl⟩
set_option maxHeartbeats 400000 in
theorem rl7_any (a : Nat) (w : World) (h : a < 4294967296) :
    Calls Tryd.prog 55 #[.int .u32 (a : Nat), .int .i64 (-7)] w fun e w' => e = .returned (.int .u32 (rorN 7 a : Nat)) ∧ w' = w := by
  have hb : bits .and .u64 (IntKind.u64.wrap (-7)) 31 = 25 := by decide
  have e1 : bits .or .u32 ((a : Int) * 33554432 % 4294967296) ((a : Int) / 128) = (rorN 7 a : Nat) := by
    rw [show (a : Int) * 33554432 % 4294967296 = ((a * 33554432 % 4294967296 : Nat) : Int) from by omega, show (a : Int) / 128 = ((a / 128 : Nat) : Int) from by omega]
    exact u32_or_nat _ _ (Nat.mod_lt _ (by decide)) (by omega)
  have E1 := Lib.hid e1
  clear e1
  go_enter Tryd.func55, Tryd.ntmps55
  go_wp2
  go_ret
  exact ⟨by rw [E1.out]; rfl, rfl⟩
set_option maxHeartbeats 400000 in
theorem ror7_any (a : Nat) (w : World) (h : a < 4294967296) :
    Calls Tryd.prog 52 #[.int .u32 (a : Nat), .int .i64 7] w fun e w' => e = .returned (.int .u32 (rorN 7 a : Nat)) ∧ w' = w := by
  have HC := Lib.hid (rl7_any a w h)
  go_enter Tryd.func52, Tryd.ntmps52
  go_wp2_with fail
  refine HC.out.mono ?_
  rintro e w' ⟨rfl, rfl⟩
  go_wp2_with fail
  go_ret
  exact ⟨rfl, rfl⟩
set_option maxHeartbeats 400000 in
theorem rl11_any (a : Nat) (w : World) (h : a < 4294967296) :
    Calls Tryd.prog 55 #[.int .u32 (a : Nat), .int .i64 (-11)] w fun e w' => e = .returned (.int .u32 (rorN 11 a : Nat)) ∧ w' = w := by
  have hb : bits .and .u64 (IntKind.u64.wrap (-11)) 31 = 21 := by decide
  have e1 : bits .or .u32 ((a : Int) * 2097152 % 4294967296) ((a : Int) / 2048) = (rorN 11 a : Nat) := by
    rw [show (a : Int) * 2097152 % 4294967296 = ((a * 2097152 % 4294967296 : Nat) : Int) from by omega, show (a : Int) / 2048 = ((a / 2048 : Nat) : Int) from by omega]
    exact u32_or_nat _ _ (Nat.mod_lt _ (by decide)) (by omega)
  have E1 := Lib.hid e1
  clear e1
  go_enter Tryd.func55, Tryd.ntmps55
  go_wp2
  go_ret
  exact ⟨by rw [E1.out]; rfl, rfl⟩
set_option maxHeartbeats 400000 in
theorem ror11_any (a : Nat) (w : World) (h : a < 4294967296) :
    Calls Tryd.prog 52 #[.int .u32 (a : Nat), .int .i64 11] w fun e w' => e = .returned (.int .u32 (rorN 11 a : Nat)) ∧ w' = w := by
  have HC := Lib.hid (rl11_any a w h)
  go_enter Tryd.func52, Tryd.ntmps52
  go_wp2_with fail
  refine HC.out.mono ?_
  rintro e w' ⟨rfl, rfl⟩
  go_wp2_with fail
  go_ret
  exact ⟨rfl, rfl⟩
set_option maxHeartbeats 400000 in
theorem rl13_any (a : Nat) (w : World) (h : a < 4294967296) :
    Calls Tryd.prog 55 #[.int .u32 (a : Nat), .int .i64 (-13)] w fun e w' => e = .returned (.int .u32 (rorN 13 a : Nat)) ∧ w' = w := by
  have hb : bits .and .u64 (IntKind.u64.wrap (-13)) 31 = 19 := by decide
  have e1 : bits .or .u32 ((a : Int) * 524288 % 4294967296) ((a : Int) / 8192) = (rorN 13 a : Nat) := by
    rw [show (a : Int) * 524288 % 4294967296 = ((a * 524288 % 4294967296 : Nat) : Int) from by omega, show (a : Int) / 8192 = ((a / 8192 : Nat) : Int) from by omega]
    exact u32_or_nat _ _ (Nat.mod_lt _ (by decide)) (by omega)
  have E1 := Lib.hid e1
  clear e1
  go_enter Tryd.func55, Tryd.ntmps55
  go_wp2
  go_ret
  exact ⟨by rw [E1.out]; rfl, rfl⟩
set_option maxHeartbeats 400000 in
theorem ror13_any (a : Nat) (w : World) (h : a < 4294967296) :
    Calls Tryd.prog 52 #[.int .u32 (a : Nat), .int .i64 13] w fun e w' => e = .returned (.int .u32 (rorN 13 a : Nat)) ∧ w' = w := by
  have HC := Lib.hid (rl13_any a w h)
  go_enter Tryd.func52, Tryd.ntmps52
  go_wp2_with fail
  refine HC.out.mono ?_
  rintro e w' ⟨rfl, rfl⟩
  go_wp2_with fail
  go_ret
  exact ⟨rfl, rfl⟩
set_option maxHeartbeats 400000 in
theorem rl17_any (a : Nat) (w : World) (h : a < 4294967296) :
    Calls Tryd.prog 55 #[.int .u32 (a : Nat), .int .i64 (-17)] w fun e w' => e = .returned (.int .u32 (rorN 17 a : Nat)) ∧ w' = w := by
  have hb : bits .and .u64 (IntKind.u64.wrap (-17)) 31 = 15 := by decide
  have e1 : bits .or .u32 ((a : Int) * 32768 % 4294967296) ((a : Int) / 131072) = (rorN 17 a : Nat) := by
    rw [show (a : Int) * 32768 % 4294967296 = ((a * 32768 % 4294967296 : Nat) : Int) from by omega, show (a : Int) / 131072 = ((a / 131072 : Nat) : Int) from by omega]
    exact u32_or_nat _ _ (Nat.mod_lt _ (by decide)) (by omega)
  have E1 := Lib.hid e1
  clear e1
  go_enter Tryd.func55, Tryd.ntmps55
  go_wp2
  go_ret
  exact ⟨by rw [E1.out]; rfl, rfl⟩
set_option maxHeartbeats 400000 in
theorem ror17_any (a : Nat) (w : World) (h : a < 4294967296) :
    Calls Tryd.prog 52 #[.int .u32 (a : Nat), .int .i64 17] w fun e w' => e = .returned (.int .u32 (rorN 17 a : Nat)) ∧ w' = w := by
  have HC := Lib.hid (rl17_any a w h)
  go_enter Tryd.func52, Tryd.ntmps52
  go_wp2_with fail
  refine HC.out.mono ?_
  rintro e w' ⟨rfl, rfl⟩
  go_wp2_with fail
  go_ret
  exact ⟨rfl, rfl⟩
set_option maxHeartbeats 400000 in
theorem rl18_any (a : Nat) (w : World) (h : a < 4294967296) :
    Calls Tryd.prog 55 #[.int .u32 (a : Nat), .int .i64 (-18)] w fun e w' => e = .returned (.int .u32 (rorN 18 a : Nat)) ∧ w' = w := by
  have hb : bits .and .u64 (IntKind.u64.wrap (-18)) 31 = 14 := by decide
  have e1 : bits .or .u32 ((a : Int) * 16384 % 4294967296) ((a : Int) / 262144) = (rorN 18 a : Nat) := by
    rw [show (a : Int) * 16384 % 4294967296 = ((a * 16384 % 4294967296 : Nat) : Int) from by omega, show (a : Int) / 262144 = ((a / 262144 : Nat) : Int) from by omega]
    exact u32_or_nat _ _ (Nat.mod_lt _ (by decide)) (by omega)
  have E1 := Lib.hid e1
  clear e1
  go_enter Tryd.func55, Tryd.ntmps55
  go_wp2
  go_ret
  exact ⟨by rw [E1.out]; rfl, rfl⟩
set_option maxHeartbeats 400000 in
theorem ror18_any (a : Nat) (w : World) (h : a < 4294967296) :
    Calls Tryd.prog 52 #[.int .u32 (a : Nat), .int .i64 18] w fun e w' => e = .returned (.int .u32 (rorN 18 a : Nat)) ∧ w' = w := by
  have HC := Lib.hid (rl18_any a w h)
  go_enter Tryd.func52, Tryd.ntmps52
  go_wp2_with fail
  refine HC.out.mono ?_
  rintro e w' ⟨rfl, rfl⟩
  go_wp2_with fail
  go_ret
  exact ⟨rfl, rfl⟩
set_option maxHeartbeats 400000 in
theorem rl19_any (a : Nat) (w : World) (h : a < 4294967296) :
    Calls Tryd.prog 55 #[.int .u32 (a : Nat), .int .i64 (-19)] w fun e w' => e = .returned (.int .u32 (rorN 19 a : Nat)) ∧ w' = w := by
  have hb : bits .and .u64 (IntKind.u64.wrap (-19)) 31 = 13 := by decide
  have e1 : bits .or .u32 ((a : Int) * 8192 % 4294967296) ((a : Int) / 524288) = (rorN 19 a : Nat) := by
    rw [show (a : Int) * 8192 % 4294967296 = ((a * 8192 % 4294967296 : Nat) : Int) from by omega, show (a : Int) / 524288 = ((a / 524288 : Nat) : Int) from by omega]
    exact u32_or_nat _ _ (Nat.mod_lt _ (by decide)) (by omega)
  have E1 := Lib.hid e1
  clear e1
  go_enter Tryd.func55, Tryd.ntmps55
  go_wp2
  go_ret
  exact ⟨by rw [E1.out]; rfl, rfl⟩
set_option maxHeartbeats 400000 in
theorem ror19_any (a : Nat) (w : World) (h : a < 4294967296) :
    Calls Tryd.prog 52 #[.int .u32 (a : Nat), .int .i64 19] w fun e w' => e = .returned (.int .u32 (rorN 19 a : Nat)) ∧ w' = w := by
  have HC := Lib.hid (rl19_any a w h)
  go_enter Tryd.func52, Tryd.ntmps52
  go_wp2_with fail
  refine HC.out.mono ?_
  rintro e w' ⟨rfl, rfl⟩
  go_wp2_with fail
  go_ret
  exact ⟨rfl, rfl⟩
set_option maxHeartbeats 400000 in
theorem rl22_any (a : Nat) (w : World) (h : a < 4294967296) :
    Calls Tryd.prog 55 #[.int .u32 (a : Nat), .int .i64 (-22)] w fun e w' => e = .returned (.int .u32 (rorN 22 a : Nat)) ∧ w' = w := by
  have hb : bits .and .u64 (IntKind.u64.wrap (-22)) 31 = 10 := by decide
  have e1 : bits .or .u32 ((a : Int) * 1024 % 4294967296) ((a : Int) / 4194304) = (rorN 22 a : Nat) := by
    rw [show (a : Int) * 1024 % 4294967296 = ((a * 1024 % 4294967296 : Nat) : Int) from by omega, show (a : Int) / 4194304 = ((a / 4194304 : Nat) : Int) from by omega]
    exact u32_or_nat _ _ (Nat.mod_lt _ (by decide)) (by omega)
  have E1 := Lib.hid e1
  clear e1
  go_enter Tryd.func55, Tryd.ntmps55
  go_wp2
  go_ret
  exact ⟨by rw [E1.out]; rfl, rfl⟩
set_option maxHeartbeats 400000 in
theorem ror22_any (a : Nat) (w : World) (h : a < 4294967296) :
    Calls Tryd.prog 52 #[.int .u32 (a : Nat), .int .i64 22] w fun e w' => e = .returned (.int .u32 (rorN 22 a : Nat)) ∧ w' = w := by
  have HC := Lib.hid (rl22_any a w h)
  go_enter Tryd.func52, Tryd.ntmps52
  go_wp2_with fail
  refine HC.out.mono ?_
  rintro e w' ⟨rfl, rfl⟩
  go_wp2_with fail
  go_ret
  exact ⟨rfl, rfl⟩
set_option maxHeartbeats 400000 in
theorem rl25_any (a : Nat) (w : World) (h : a < 4294967296) :
    Calls Tryd.prog 55 #[.int .u32 (a : Nat), .int .i64 (-25)] w fun e w' => e = .returned (.int .u32 (rorN 25 a : Nat)) ∧ w' = w := by
  have hb : bits .and .u64 (IntKind.u64.wrap (-25)) 31 = 7 := by decide
  have e1 : bits .or .u32 ((a : Int) * 128 % 4294967296) ((a : Int) / 33554432) = (rorN 25 a : Nat) := by
    rw [show (a : Int) * 128 % 4294967296 = ((a * 128 % 4294967296 : Nat) : Int) from by omega, show (a : Int) / 33554432 = ((a / 33554432 : Nat) : Int) from by omega]
    exact u32_or_nat _ _ (Nat.mod_lt _ (by decide)) (by omega)
  have E1 := Lib.hid e1
  clear e1
  go_enter Tryd.func55, Tryd.ntmps55
  go_wp2
  go_ret
  exact ⟨by rw [E1.out]; rfl, rfl⟩
set_option maxHeartbeats 400000 in
theorem ror25_any (a : Nat) (w : World) (h : a < 4294967296) :
    Calls Tryd.prog 52 #[.int .u32 (a : Nat), .int .i64 25] w fun e w' => e = .returned (.int .u32 (rorN 25 a : Nat)) ∧ w' = w := by
  have HC := Lib.hid (rl25_any a w h)
  go_enter Tryd.func52, Tryd.ntmps52
  go_wp2_with fail
  refine HC.out.mono ?_
  rintro e w' ⟨rfl, rfl⟩
  go_wp2_with fail
  go_ret
  exact ⟨rfl, rfl⟩
end Go.Proofs.YtloajfbehejehaaDoor
