/- How many sectors a record has; the number that a sector tells; bytes held against one another. -/
import Derived.Test.YtfbbnffinlebbaaDoorFr0
import Derived.Test.YtfbbnffinlebbaaDoorVc
namespace Go.Proofs.YtfbbnffinlebbaaDoor
set_option linter.unusedVariables false
set_option linter.unusedSimpArgs false
open Go.RowKit

theorem or_add {a b k : Nat} (hb : b < 2 ^ k) : (a * 2 ^ k) ||| b = a * 2 ^ k + b := by
  rw [Nat.mul_comm, ← Nat.two_pow_add_eq_or_of_lt hb a]
theorem u32_join {a b : Int} (k : Nat) (ha : 0 ≤ a) (hb : 0 ≤ b) (hbk : b < (2 ^ k : Nat)) (h : a * (2 ^ k : Nat) + b < 4294967296) : bits .or .u32 (a * (2 ^ k : Nat)) b = a * (2 ^ k : Nat) + b := by
  obtain ⟨n, rfl⟩ := Int.eq_ofNat_of_zero_le ha
  obtain ⟨m, rfl⟩ := Int.eq_ofNat_of_zero_le hb
  have h1 : m < 2 ^ k := by omega
  have h2 : ((n : Int) * ((2 ^ k : Nat) : Int)) = ((n * 2 ^ k : Nat) : Int) := (Int.natCast_mul _ _).symm
  rw [h2] at h ⊢
  rw [u32_or_nat _ _ (by omega) (by omega), or_add h1]; omega
theorem u32_join4 {y3 y2 y1 y0 : Int} (b3 : 0 ≤ y3 ∧ y3 < 256) (b2 : 0 ≤ y2 ∧ y2 < 256) (b1 : 0 ≤ y1 ∧ y1 < 256) (b0 : 0 ≤ y0 ∧ y0 < 256) :
    bits .or .u32 (bits .or .u32 (bits .or .u32 (y3 * 16777216) (y2 * 65536)) (y1 * 256)) y0 = y3 * 16777216 + y2 * 65536 + y1 * 256 + y0 := by
  have e1 := u32_join (a := y3) (b := y2 * 65536) 24 b3.1 (by omega) (by omega) (by omega)
  rw [show ((2 ^ 24 : Nat) : Int) = 16777216 from by decide] at e1
  have e2 := u32_join (a := y3 * 256 + y2) (b := y1 * 256) 16 (by omega) (by omega) (by omega) (by omega)
  rw [show ((2 ^ 16 : Nat) : Int) = 65536 from by decide, show (y3 * 256 + y2) * 65536 = y3 * 16777216 + y2 * 65536 from by omega] at e2
  have e3 := u32_join (a := y3 * 65536 + y2 * 256 + y1) (b := y0) 8 (by omega) (by omega) (by omega) (by omega)
  rw [show ((2 ^ 8 : Nat) : Int) = 256 from by decide, show (y3 * 65536 + y2 * 256 + y1) * 256 = y3 * 16777216 + y2 * 65536 + y1 * 256 from by omega] at e3
  rw [e1, e2, e3]

set_option maxRecDepth 100000 in
set_option maxHeartbeats 2000000 in
theorem bequal_any (oa ob : Option Addr) (n cn m cm : Nat) (A B : ByteArray) (w : World) (h1 : CV w oa n A) (h2 : CV w ob m B) :
    Calls Tryd.prog 20 #[.slice oa n cn, .slice ob m cm] w fun e w' => e = .returned (.bool (decide (A = B))) ∧ w = w' := by
  have hc1 := h1.conv (c := cn)
  have hc2 := h2.conv (c := cm)
  by_cases e : A = B
  · subst e
    go_enter Tryd.func20, Tryd.ntmps20
    go_wp2_with fail
    go_ret
    simp
  · have n1 := str_ne e
    have n2 : (A.toList == B.toList) = false := by simpa using n1
    have n3 : decide (A = B) = false := decide_eq_false e
    rw [n3]
    go_enter Tryd.func20, Tryd.ntmps20
    go_wp2_with fail
    go_ret
    exact ⟨rfl, rfl⟩
theorem results_tmp4 {fn : Func} {t u v x : Tmp} (h : fn.results = #[.tmp t, .tmp u, .tmp v, .tmp x]) (tmps : Array Value) (P : Program) (w : World) :
    (results fn tmps).run P w = .ok (.tuple #[tmps.getD t undef, tmps.getD u undef, tmps.getD v undef, tmps.getD x undef]) w := by
  simp [results, h]
def secO (n : Nat) : Nat := if n ≤ 14280 then secN n else 0
set_option maxRecDepth 100000 in
set_option maxHeartbeats 2000000 in
theorem sectors_any (n : Nat) (w : World) (h : n ≤ 9223372036854775807) :
    Calls Tryd.prog 16 #[.int .i64 (n : Int)] w fun e w' => e = .returned (.int .i64 (secO n : Nat)) ∧ w = w' := by
  have h0 : ¬ (n : Int) < 0 := by omega
  by_cases h1 : n ≤ 14280
  · have h2 : ¬ (14280 : Int) < (n : Int) := by omega
    obtain ⟨m, hm⟩ : ∃ x, n + 55 = x := ⟨_, rfl⟩
    obtain ⟨q, hq⟩ : ∃ x, m / 56 = x := ⟨_, rfl⟩
    have k1 : IntKind.i64.wrap ((n : Int) + 56) = (m : Int) + 1 := by rw [IntWalk.i64_in _ (by omega)]; omega
    have k2 : IntKind.i64.wrap ((m : Int)) = (m : Int) := by rw [IntWalk.i64_in _ (by omega)]
    have k3 : (m : Int).tdiv 56 = (q : Int) := by rw [Int.tdiv_eq_ediv_of_nonneg (by omega)]; omega
    have k5 : (m : Int) / 56 = (q : Int) := by omega
    have k4 : IntKind.i64.wrap (q : Int) = (q : Int) := by rw [IntWalk.i64_in _ (by omega)]
    have e : secO n = max 1 q := by unfold secO secN; rw [if_pos h1, hm, hq]
    rw [e]
    clear e hm hq h1
    rcases Nat.lt_or_ge 1 q with h9 | h9
    · have k6 : (1 : Int) < (q : Int) := by omega
      rw [Nat.max_eq_right (by omega)]
      clear h9
      go_enter Tryd.func16, Tryd.ntmps16
      go_wp2_with fail
      go_ret
      exact ⟨rfl, rfl⟩
    · have k6 : ¬ (1 : Int) < (q : Int) := by omega
      rw [Nat.max_eq_left (by omega)]
      clear h9
      go_enter Tryd.func16, Tryd.ntmps16
      go_wp2_with fail
      go_ret
      exact ⟨rfl, rfl⟩
  · have h2 : (14280 : Int) < (n : Int) := by omega
    have e : secO n = 0 := if_neg h1
    rw [e]
    clear e h1
    go_enter Tryd.func16, Tryd.ntmps16
    go_wp2_with fail
    go_ret
    exact ⟨rfl, rfl⟩
theorem sectors_neg (n : Int) (w : World) (h : n < 0) :
    Calls Tryd.prog 16 #[.int .i64 n] w fun e w' => e = .returned (.int .i64 0) ∧ w = w' := by
  go_enter Tryd.func16, Tryd.ntmps16
  go_wp2_with fail
  go_ret
  exact ⟨rfl, rfl⟩
set_option maxRecDepth 100000 in
set_option maxHeartbeats 4000000 in
theorem seq_any (o : Option Addr) (m c : Nat) (F : Nat → Nat) (w : World) (h : Bytes w o m F) (hm : m ≤ maxLen) :
    Calls Tryd.prog 12 #[.slice o m c] w fun e w' => ((m = 64 ∧ e = .returned (.tuple #[.int .u32 (seqF F : Nat), .nilIface])) ∨ (m ≠ 64 ∧ e = .returned (.tuple #[.int .u32 0, .iface 47 (.int .i64 4)]))) ∧ Below w.heap.size w w' := by
  unfold maxLen at hm
  by_cases h0 : m = 64
  · subst h0
    obtain ⟨b0, b, off, rfl, c0⟩ := h 0 (by decide)
    obtain ⟨b1, _, _, e1, c1⟩ := h 1 (by decide)
    obtain ⟨b2, _, _, e2, c2⟩ := h 2 (by decide)
    obtain ⟨b3, _, _, e3, c3⟩ := h 3 (by decide)
    cases e1; cases e2; cases e3
    clear h
    have hj := u32_join4 (y3 := (F 0 : Nat)) (y2 := (F 1 : Nat)) (y1 := (F 2 : Nat)) (y0 := (F 3 : Nat)) (by omega) (by omega) (by omega) (by omega)
    have hs : ((seqF F : Nat) : Int) = (F 0 : Nat) * 16777216 + (F 1 : Nat) * 65536 + (F 2 : Nat) * 256 + (F 3 : Nat) := by unfold seqF; omega
    rw [← hs] at hj
    clear hs
    generalize seqF F = Z at *
    generalize F 0 = x0 at *
    generalize F 1 = x1 at *
    generalize F 2 = x2 at *
    generalize F 3 = x3 at *
    have v0 : IntKind.u32.wrap (x0 : Int) = (x0 : Int) := IntWalk.u32_in _ (by omega)
    have v1 : IntKind.u32.wrap (x1 : Int) = (x1 : Int) := IntWalk.u32_in _ (by omega)
    have v2 : IntKind.u32.wrap (x2 : Int) = (x2 : Int) := IntWalk.u32_in _ (by omega)
    have v3 : IntKind.u32.wrap (x3 : Int) = (x3 : Int) := IntWalk.u32_in _ (by omega)
    have m0 : IntKind.u32.wrap ((x0 : Int) * 16777216) = (x0 : Int) * 16777216 := IntWalk.u32_in _ (by omega)
    have m1 : IntKind.u32.wrap ((x1 : Int) * 65536) = (x1 : Int) * 65536 := IntWalk.u32_in _ (by omega)
    have m2 : IntKind.u32.wrap ((x2 : Int) * 256) = (x2 : Int) * 256 := IntWalk.u32_in _ (by omega)
    rw [Nat.add_zero] at c0
    have c0 : w.drew.cell? ⟨b, off, none⟩ = some (.int .u8 (x0 : Nat)) := c0
    have c1 : w.drew.cell? ⟨b, off + 1, none⟩ = some (.int .u8 (x1 : Nat)) := c1
    have c2 : w.drew.cell? ⟨b, off + 2, none⟩ = some (.int .u8 (x2 : Nat)) := c2
    have c3 : w.drew.cell? ⟨b, off + 3, none⟩ = some (.int .u8 (x3 : Nat)) := c3
    go_enter Tryd.func12, Tryd.ntmps12
    go_wp2_with fail
    have hB0 : Below w.heap.size w w.drew := (Below.refl _ _).drew
    refine still_lit (by kernel_rfl) (by kernel_rfl) ?_
    generalize w.drew = W0 at *
    repeat still_step
    refine wpStill_nil ?_
    go_wp2_with fail
    go_ret2
    exact ⟨.inl ⟨trivial, rfl⟩, hB0⟩
  · have h1 : ¬ (m : Int) = 64 := by omega
    have h2 : decide ((m : Int) = 64) = false := decide_eq_false h1
    have H0 := Lib.hid h0
    clear h h0
    go_enter Tryd.func12, Tryd.ntmps12
    go_wp2_with fail
    go_ret2
    exact ⟨.inr ⟨H0.out, rfl⟩, Below.refl _ _⟩
end Go.Proofs.YtfbbnffinlebbaaDoor
