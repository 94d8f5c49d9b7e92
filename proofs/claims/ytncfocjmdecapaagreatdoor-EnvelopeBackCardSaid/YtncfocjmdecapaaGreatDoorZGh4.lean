/- A number moved by one place; as a block. -/
import Derived.Laws.Bits64
import Derived.Laws.Bits64b
import Derived.Test.YtncfocjmdecapaaGreatDoorZB0
import Derived.Test.YtncfocjmdecapaaGreatDoorZS1
import Derived.Test.YtncfocjmdecapaaGreatDoorZS2
import Derived.Test.YtncfocjmdecapaaGreatDoorZSh4
import Derived.Test.YtncfocjmdecapaaGreatDoorZA0
import Derived.Test.YtncfocjmdecapaaGreatDoorZS5
import Derived.Test.YtncfocjmdecapaaGreatDoorZSh7
import Derived.Test.YtncfocjmdecapaaGreatDoorZS8
import Derived.Test.YtncfocjmdecapaaGreatDoorZHm2
import Derived.Test.YtncfocjmdecapaaGreatDoorZAs
import Derived.Test.YtncfocjmdecapaaGreatDoorZR0
import Derived.Test.YtncfocjmdecapaaGreatDoorZB16
import Derived.Test.YtncfocjmdecapaaGreatDoorZQ0
namespace Go.Proofs.YtncfocjmdecapaaGreatDoor
set_option linter.unusedVariables false
set_option linter.unusedSimpArgs false
open Go.RowKit
set_option maxRecDepth 100000 in
set_option maxHeartbeats 2000000 in
theorem next_any (a b : Nat) (w : World) (ha : a < 18446744073709551616) (hb : b < 18446744073709551616) :
    Calls Tryz.prog 96 #[.agg #[.int .u64 (a : Int), .int .u64 (b : Int)]] w fun e w' => e = .returned (.agg #[.int .u64 (nx1 a b : Int), .int .u64 (nx2 a b : Int)]) ∧ Below w.heap.size w w' := by
  have o1 : bits .and .u64 (b : Int) 1 = ((b % 2 : Nat) : Int) := by
    have := bits_and_u64_nat b 1 hb (by decide)
    rw [Nat.and_one_is_mod] at this; exact this
  have e2 : IntKind.u64.wrap ((a : Int) * 9223372036854775808) = ((a * 2 ^ 63 % 2 ^ 64 : Nat) : Int) := by rw [IntKind.wrap_u64]; omega
  have o2 : bits .or .u64 ((b : Int) / 2) ((a * 2 ^ 63 % 2 ^ 64 : Nat) : Int) = (nx2 a b : Int) := by
    have := bits_or_u64_nat (b / 2) (a * 2 ^ 63 % 2 ^ 64) (by omega) (by omega)
    rw [show ((b / 2 : Nat) : Int) = (b : Int) / 2 by omega] at this; exact this
  have e3 : IntKind.u64.wrap (((b % 2 : Nat) : Int) * 16212958658533785600) = ((b % 2 * lowN : Nat) : Int) := by rw [IntKind.wrap_u64]; unfold lowN; omega
  have o3 : bits .xor .u64 ((a : Int) / 2) ((b % 2 * lowN : Nat) : Int) = (nx1 a b : Int) := by
    have := bits_xor_u64_nat (a / 2) (b % 2 * lowN) (by omega) (by unfold lowN; omega)
    rw [show ((a / 2 : Nat) : Int) = (a : Int) / 2 by omega] at this; exact this
  generalize nx1 a b = x at *
  generalize nx2 a b = y at *
  generalize b % 2 * lowN = p at *
  generalize a * 2 ^ 63 % 2 ^ 64 = q at *
  generalize b % 2 = r at *
  go_enter Tryz.func96, Tryz.ntmps96
  go_wp2_with fail
  have c0 := Blk.cell (((Blk.new w #[.int .u64 (x : Int), .int .u64 (y : Int)] 184)).alloc (.cells #[.int .u64 (x : Int), .int .u64 (y : Int)] 184)) 0
  refine bodyPost_ret (v := .agg #[.int .u64 (x : Int), .int .u64 (y : Int)]) ?_ rfl ⟨rfl, ((Below.refl _ _).alloc (Nat.le_refl _) _).alloc (by simp) _⟩
  have hN : Blk ((w.alloc (.cells #[.int .u64 (x : Int), .int .u64 (y : Int)] 184)).alloc (.cells #[.int .u64 (x : Int), .int .u64 (y : Int)] 184)) (w.heap.size + 1) #[.int .u64 (x : Int), .int .u64 (y : Int)] 184 := by
    simpa using Blk.new (w.alloc (.cells #[.int .u64 (x : Int), .int .u64 (y : Int)] 184)) #[.int .u64 (x : Int), .int .u64 (y : Int)] 184
  exact results_cell_row Tryz.results96 _ _ (w.heap.size + 1) 184 #[.int .u64 (x : Int), .int .u64 (y : Int)] (0, 0) _ rfl hN Tryz.underlying184 rfl (by kernel_rfl)

set_option maxRecDepth 100000 in
theorem numB_shift (a i : Nat) (hi : i < 8) : IntKind.u8.wrap ((a : Int) / (2 : Int) ^ (56 - 8 * i)) = ((numB a 8 i : Nat) : Int) := by
  have e : (a : Int) / (2 : Int) ^ (56 - 8 * i) = ((a / 2 ^ (56 - 8 * i) : Nat) : Int) := by push_cast; rfl
  have p : (2 : Nat) ^ (56 - 8 * i) = 256 ^ (8 - 1 - i) := by rw [show (256 : Nat) = 2 ^ 8 from rfl, ← Nat.pow_mul]; congr 1; omega
  rw [e, p]
  unfold numB
  generalize a / 256 ^ (8 - 1 - i) = n
  simp only [IntKind.wrap, IntKind.bits, IntKind.signed]
  simp
/-- Behind k rounds of a block. -/
def BI (w0 : World) (a b k : Nat) (wr : World) : Prop := W2 wr w0.heap.size a b ∧ B16 wr (w0.heap.size + 1) (fun _ => 0) ∧ B16 wr (w0.heap.size + 1 + 1) (fun i => if i % 8 < k then blkF a b i else 0) ∧ Below w0.heap.size w0 wr
set_option maxRecDepth 100000 in
set_option maxHeartbeats 4000000 in
theorem block_any (a b : Nat) (w : World) :
    Calls Tryz.prog 97 #[.agg #[.int .u64 (a : Int), .int .u64 (b : Int)]] w fun e w' => e = .returned (.agg (rowC 16 (blkF a b)).toArray) ∧ Below w.heap.size w w' := by
  have hz := zero16_run
  have HT := Lib.hid (show BI w a b 0 (((w.alloc (.cells #[.int .u64 (a : Int), .int .u64 (b : Int)] 184)).alloc (.cells zero16 82)).alloc (.cells zero16 82)) by
    refine ⟨((Blk.new w _ 184).alloc _).alloc _, ?_, ?_, (((Below.refl _ _).alloc (Nat.le_refl _) _).alloc (by simp) _).alloc (by simp; omega) _⟩
    · have := (Blk.new (w.alloc (.cells #[.int .u64 (a : Int), .int .u64 (b : Int)] 184)) zero16 82).alloc (.cells zero16 82)
      show Blk _ _ zero16 _; simpa using this
    · have := Blk.new ((w.alloc (.cells #[.int .u64 (a : Int), .int .u64 (b : Int)] 184)).alloc (.cells zero16 82)) zero16 82
      refine B16.congr (f := fun _ => 0) ?_ fun i _ => (if_neg (Nat.not_lt_zero _)).symm
      show Blk _ _ zero16 _; simpa using this)
  go_enter Tryz.func97, Tryz.ntmps97
  go_wp2_with fail
  clear hz
  go_loopw [5] (fun i wr => ∃ k : Nat, k ≤ 8 ∧ i = .int .i64 (k : Int) ∧ BI w a b k wr) (fun i _ => 8 - (intOf i).toNat)
  case atStart => exact ⟨0, Nat.zero_le _, rfl, HT.out⟩
  case round =>
    obtain ⟨k, hk, rfl, hT⟩ := hrel
    by_cases hlt : k < 8
    · obtain ⟨hX, hY, hZ, hO⟩ := hT
      have c0 : wr.cell? ⟨w.heap.size, 0, none⟩ = some (.int .u64 (a : Int)) := Blk.cell hX 0
      have c1 : wr.cell? ⟨w.heap.size, 1, none⟩ = some (.int .u64 (b : Int)) := Blk.cell hX 1
      have z0 : wr.cell? ⟨w.heap.size + 1 + 1, k, none⟩ = some (.int .u8 0) := by
        have := hZ.cell (show k < 16 by omega); rw [if_neg (by omega)] at this; exact this
      have z1 : wr.cell? ⟨w.heap.size + 1 + 1, 8 + k, none⟩ = some (.int .u8 0) := by
        have := hZ.cell (show 8 + k < 16 by omega); rw [if_neg (by omega)] at this; exact this
      have f0 : wr.frozen? ⟨w.heap.size + 1 + 1, k, none⟩ = false := Blk.free hZ _
      have f1 : wr.frozen? ⟨w.heap.size + 1 + 1, 8 + k, none⟩ = false := Blk.free hZ _
      have n1 := numB_shift a k hlt
      have n2 := numB_shift b k hlt
      have k0 : (0 : Int) ≤ (k : Int) := by omega
      have k1 : (k : Int) < 8 := by omega
      have HN := Lib.hid (show BI w a b (k + 1) ((wr.setCell ⟨w.heap.size + 1 + 1, k, none⟩ (.int .u8 (numB a 8 k : Nat))).setCell ⟨w.heap.size + 1 + 1, 8 + k, none⟩ (.int .u8 (numB b 8 k : Nat))) by
        refine ⟨Blk.set_other (Blk.set_other hX (by simp; omega) _) (by simp; omega) _, Blk.set_other (Blk.set_other hY (by simp) _) (by simp) _, B16.congr ((hZ.set k (numB a 8 k)).set (8 + k) (numB b 8 k)) fun i hi => ?_, (hO.setCell (by simp; omega) _).setCell (by simp; omega) _⟩
        unfold upd
        by_cases e : i = 8 + k
        · subst e; rw [if_pos rfl]
          show _ = if (8 + k) % 8 < k + 1 then blkF a b (8 + k) else 0
          rw [if_pos (by omega)]; unfold blkF; rw [if_neg (by omega), show 8 + k - 8 = k by omega]
        · rw [if_neg e]
          by_cases e' : i = k
          · subst e'; rw [if_pos rfl]
            show _ = if i % 8 < i + 1 then blkF a b i else 0
            rw [if_pos (by omega)]; unfold blkF; rw [if_pos hlt]
          · rw [if_neg e']
            show (if i % 8 < k then blkF a b i else 0) = if i % 8 < k + 1 then blkF a b i else 0
            by_cases h5 : i % 8 < k
            · rw [if_pos h5, if_pos (by omega)]
            · rw [if_neg h5, if_neg (by omega)])
      clear hX hY hZ hO
      rcases (show k = 0 ∨ k = 1 ∨ k = 2 ∨ k = 3 ∨ k = 4 ∨ k = 5 ∨ k = 6 ∨ k = 7 by omega) with rfl | rfl | rfl | rfl | rfl | rfl | rfl | rfl
      all_goals
        simp at n1 n2 z0 z1 f0 f1
        generalize numB a 8 _ = u at *
        generalize numB b 8 _ = v at *
        go_wp2_with fail
        go_roundw
        case rel => first | exact ⟨1, by omega, rfl, HN.out⟩ | exact ⟨2, by omega, rfl, HN.out⟩ | exact ⟨3, by omega, rfl, HN.out⟩ | exact ⟨4, by omega, rfl, HN.out⟩ | exact ⟨5, by omega, rfl, HN.out⟩ | exact ⟨6, by omega, rfl, HN.out⟩ | exact ⟨7, by omega, rfl, HN.out⟩ | exact ⟨8, by omega, rfl, HN.out⟩
        case measure => simp [intOf]
    · obtain rfl : k = 8 := by omega
      obtain ⟨hX, hY, hZ, hO⟩ := hT
      have hZ' : B16 wr (w.heap.size + 1 + 1) (blkF a b) := hZ.congr fun i hi => if_pos (Nat.mod_lt _ (by decide))
      obtain ⟨E, hE⟩ : ∃ E, (rowC 16 (blkF a b)).toArray = E := ⟨_, rfl⟩
      have HZ : Hid (Blk wr (w.heap.size + 1 + 1) E 82) := Lib.hid (hE ▸ hZ')
      have HTh : Hid (wr.there (w.heap.size + 1) 0 E.size) := Lib.hid (hE ▸ hY.there (blkF a b))
      have HI : Hid ((Tryz.prog.info? 82).map (·.size) = some E.size) := Lib.hid (hE ▸ info16 (blkF a b))
      have HON : Hid (E.all (·.oneCell') = true) := Lib.hid (hE ▸ one16 (blkF a b))
      have HN : Hid (Blk (wr.setCells (w.heap.size + 1) 0 E.toList) (w.heap.size + 1) E 82) := Lib.hid (hE ▸ hY.store (blkF a b))
      have HOw : Hid (Own (w.heap.size + 1) wr (wr.setCells (w.heap.size + 1) 0 E.toList)) := Lib.hid (Own.setCells _ _ _)
      have HO := Lib.hid hO
      have HE := Lib.hid hE
      clear hX hY hZ hO hZ' hE hlt hk HT
      go_wp2_with (first
        | (refine wpList_load_row rfl 82 (.tmp 3) rfl (w.heap.size + 1 + 1) rfl 82 E (0, 0) _ HZ.out Tryz.underlying82 rfl HI.out ?_)
        | (refine wpList_store_mid rfl 82 (.tmp 2) (.tmp 28) rfl (w.heap.size + 1) 0 E rfl rfl HTh.out HI.out HON.out ?_))
      refine bodyPost_ret (v := .agg E) ?_ rfl ⟨by rw [HE.out], ?_⟩
      · exact results_cell_row Tryz.results97 _ _ (w.heap.size + 1) 82 E (0, 0) _ rfl HN.out Tryz.underlying82 rfl HI.out
      · exact HO.out.trans (HOw.out.below (by omega) HO.out.size)

end Go.Proofs.YtncfocjmdecapaaGreatDoor
