/- Contracts of nonce.Parse, of nil counters, and of the document's own functions of layer 18. -/
import Derived.Test.YtkaddilgegimjaaDoorNp
import Derived.Test.YtkaddilgegimjaaDoorNonce
namespace Go.Proofs.YtkaddilgegimjaaDoor
set_option linter.unusedVariables false
set_option linter.unusedSimpArgs false
open Go.RowKit

set_option maxHeartbeats 400000 in
theorem parse_bad (oa : Option Addr) (n cp : Nat) (w : World) (h : n ≠ 12) :
    Calls Tryd.prog 22 #[.slice oa n cp] w fun e w' => e = .returned (.tuple #[.int .u32 0, .int .u64 0, .iface 146 (.int .i64 4)]) ∧ w = w' := by
  have h1 : ((n : Int) != 12) = true := by rw [bne_iff_ne]; omega
  go_enter Tryd.func22, Tryd.ntmps22
  go_wp2_with fail
  go_ret3
  exact ⟨rfl, rfl⟩

set_option maxRecDepth 100000 in
set_option maxHeartbeats 1000000 in
theorem parse_any (cb co cp : Nat) (f : Nat → Nat) (w : World) (hb : Bytes w (some ⟨cb, co, none⟩) 12 f) (hc : 12 ≤ cp) :
    Calls Tryd.prog 22 #[.slice (some ⟨cb, co, none⟩) 12 cp] w fun e w' => e = .returned (.tuple #[.int .u32 (beN f 0 4 : Nat), .int .u64 (beN f 4 8 : Nat), .nilIface]) ∧ w = w' := by
  have h1 : (4 : Int) ≤ (cp : Int) := by omega
  have h2 : (12 : Int) ≤ (cp : Int) := by omega
  have h3 : ¬ (cp = 4) := by omega
  have hf : ∀ i, i < 12 → f i < 256 := fun i hi => (hb i hi).1
  have HB : Hid _ := hb
  have HF : Hid _ := hf
  clear hb hf
  go_enter Tryd.func22, Tryd.ntmps22
  go_wp2_with fail
  go_loop [5, 18] (fun t i => ∃ k : Nat, k ≤ 4 ∧ i = .int .i64 k ∧ t = .int .u32 (beN f 0 k : Nat)) (fun _ i => 4 - (intOf i).toNat)
  case atStart => exact ⟨0, Nat.zero_le _, rfl, rfl⟩
  case round =>
    obtain ⟨k, hk, rfl, rfl⟩ := hrel
    by_cases hlt : k < 4
    · obtain ⟨hfk, cb', co', e, hcell⟩ := HB.out k (by omega)
      cases e
      have hk0 : (0 : Int) ≤ (k : Int) := by omega
      have hk1 : (k : Int) < 4 := by omega
      have hl : beN f 0 k < 16777216 := Nat.lt_of_lt_of_le (beN_lt k fun i hi => by rw [Nat.zero_add]; exact HF.out i (by omega)) (Nat.pow_le_pow_right (n := 256) (by decide) (show k ≤ 3 by omega))
      have hs : beN f 0 (k + 1) = beN f 0 k * 256 + f k := by show beN f 0 k * 256 + f (0 + k) = _; rw [Nat.zero_add]
      have HS : Hid _ := hs
      clear hs
      generalize beN f 0 k = t at *
      generalize f k = x at *
      have e1 := u32_or8 t x hl hfk
      go_wp2_with fail
      go_round
      case rel => exact ⟨k + 1, by omega, by go_num, by rw [HS.out]; go_num⟩
      case measure => simp [intOf]; omega
    · obtain rfl : k = 4 := by omega
      obtain ⟨t, ht⟩ : ∃ t, beN f 0 4 = t := ⟨_, rfl⟩
      rw [ht]
      have HT : Hid _ := ht
      clear ht
      go_wp2_with fail
      go_loop [8, 31] (fun t i => ∃ k : Nat, k ≤ 8 ∧ i = .int .i64 k ∧ t = .int .u64 (beN f 4 k : Nat)) (fun _ i => 8 - (intOf i).toNat)
      case atStart => exact ⟨0, Nat.zero_le _, rfl, rfl⟩
      case round =>
        obtain ⟨k, hk, rfl, rfl⟩ := hrel
        by_cases hlt : k < 8
        · obtain ⟨hfk, cb', co', e, hcell⟩ := HB.out (4 + k) (by omega)
          cases e
          rw [← Nat.add_assoc] at hcell
          have hk0 : (0 : Int) ≤ (k : Int) := by omega
          have hk1 : (k : Int) < 8 := by omega
          have hl : beN f 4 k < 72057594037927936 := Nat.lt_of_lt_of_le (beN_lt k fun i hi => HF.out _ (by omega)) (Nat.pow_le_pow_right (n := 256) (by decide) (show k ≤ 7 by omega))
          have hs : beN f 4 (k + 1) = beN f 4 k * 256 + f (4 + k) := rfl
          have HS : Hid _ := hs
          clear hs
          generalize beN f 4 k = t2 at *
          generalize f (4 + k) = x at *
          have e1 := u64_or8 t2 x hl hfk
          go_wp2_with fail
          go_round
          case rel => exact ⟨k + 1, by omega, by go_num, by rw [HS.out]; go_num⟩
          case measure => simp [intOf]; omega
        · obtain rfl : k = 8 := by omega
          obtain ⟨t2, ht2⟩ : ∃ t, beN f 4 8 = t := ⟨_, rfl⟩
          rw [ht2]
          have HT2 : Hid _ := ht2
          clear ht2
          go_wp2_with fail
          go_ret3
          exact ⟨by rw [HT.out, HT2.out]; rfl, rfl⟩

theorem nb_k {t n : Nat} {b : Nat} {x0 x1 y0 y1 : Value} (w : World) (ht : t < 4294967296) (hn : n < 18446744073709551616)
    (h0 : w.cell? ⟨b, 0, none⟩ = some x0) (h1 : w.cell? ⟨b, 1, none⟩ = some x1) (k0 : w.cell? ⟨b + 1, 0, none⟩ = some y0) (k1 : w.cell? ⟨b + 1, 1, none⟩ = some y1) :
    Calls Tryd.prog 20 #[.int .u32 t, .int .u64 n] w fun e w' => ∃ v, e = .returned v ∧ (∃ base, Grow w' base v 12 (nbF t n)) ∧ Below w.heap.size w w' ∧ w'.cell? ⟨b, 0, none⟩ = some x0 ∧ w'.cell? ⟨b, 1, none⟩ = some x1 ∧ w'.cell? ⟨b + 1, 0, none⟩ = some y0 ∧ w'.cell? ⟨b + 1, 1, none⟩ = some y1 :=
  (nb_grow w ht hn).mono fun e w' ⟨v, he, hG, hb⟩ => ⟨v, he, ⟨_, hG⟩, hb, cell_below hb h0, cell_below hb h1, cell_below hb k0, cell_below hb k1⟩
theorem nb_k2 {t n T N : Nat} {u : Value} {b : Nat} {x0 x1 y0 y1 : Value} (w : World) (hu : ∃ base, Grow w base u 12 (nbF T N)) (ht : t < 4294967296) (hn : n < 18446744073709551616)
    (h0 : w.cell? ⟨b, 0, none⟩ = some x0) (h1 : w.cell? ⟨b, 1, none⟩ = some x1) (k0 : w.cell? ⟨b + 1, 0, none⟩ = some y0) (k1 : w.cell? ⟨b + 1, 1, none⟩ = some y1) :
    Calls Tryd.prog 20 #[.int .u32 t, .int .u64 n] w fun e w' => ∃ cv cu gv gu, e = .returned (.slice (some ⟨gv, 0, none⟩) 12 cv) ∧ u = .slice (some ⟨gu, 0, none⟩) 12 cu ∧
      (convert 31 9 (.slice (some ⟨gv, 0, none⟩) 12 cv)).run Tryd.prog w' = .ok (.string (strF 12 (nbF t n))) w' ∧ (convert 31 9 (.slice (some ⟨gu, 0, none⟩) 12 cu)).run Tryd.prog w' = .ok (.string (strF 12 (nbF T N))) w' ∧
      Below w.heap.size w w' ∧ w'.cell? ⟨b, 0, none⟩ = some x0 ∧ w'.cell? ⟨b, 1, none⟩ = some x1 ∧ w'.cell? ⟨b + 1, 0, none⟩ = some y0 ∧ w'.cell? ⟨b + 1, 1, none⟩ = some y1 := by
  refine (nb_grow w ht hn).mono fun e w' ⟨v, he, hG, hb⟩ => ?_
  obtain ⟨base, hu⟩ := hu
  have hu' := hu.later hb
  obtain ⟨gv, cv, rfl, _⟩ := row_cells hG (by decide)
  obtain ⟨gu, cu, rfl, _⟩ := row_cells hu' (by decide)
  exact ⟨cv, cu, gv, gu, he, rfl, hG.conv, hu'.conv, hb, cell_below hb h0, cell_below hb h1, cell_below hb k0, cell_below hb k1⟩
end Go.Proofs.YtkaddilgegimjaaDoor
