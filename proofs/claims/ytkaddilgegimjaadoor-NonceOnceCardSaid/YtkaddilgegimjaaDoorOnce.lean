/- The walk of NonceOnce. -/
import Derived.Test.YtkaddilgegimjaaDoorSure18
import Derived.Test.YtkaddilgegimjaaDoorCame
namespace Go.Proofs.YtkaddilgegimjaaDoor
open Go.RowKit

/-- What holds at the head of each round. -/
def Inv (w0 : World) (N : Nat) (c wt la an i : Value) (wr : World) : Prop :=
  ∃ (k b : Nat) (n m q : Int) (y : Bool), k ≤ N ∧ k ≤ 300 ∧ i = .int .i64 k ∧ c = .pointer (some ⟨b, 0, none⟩) ∧ wt = .int .u64 m ∧ la = .int .u64 q ∧ an = .bool y ∧
    Ctr wr b n m 1099511627776 ∧ w0.heap.size ≤ b ∧ Below w0.heap.size w0 wr ∧ 0 ≤ n ∧ n ≤ m ∧ m ≤ 16 * k ∧ (y = true → q < n)

set_option maxRecDepth 100000 in
set_option maxHeartbeats 4000000 in
theorem once_any (oa : Option Addr) (N c : Nat) (f : Nat → Nat) (w : World) (hH : Handle w) (hf : Bytes w oa N f) :
    Calls Tryd.prog 5 #[.slice oa N c] w fun e w' => e = .returned (.bool true) ∧ Below w.heap.size w w' := by
  go_enter Tryd.func5, Tryd.ntmps5
  go_wp2_with fail
  refine (new_any _ _ _ (by decide) (by decide)).mono ?_
  rintro e w1 ⟨rfl, hC, hB⟩
  go_wp2_with fail
  go_loopw [3, 5, 6, 7, 8] (fun c wt la an i wr => Inv w N c wt la an i wr) (fun _ _ _ _ i _ => 300 - (intOf i).toNat)
  case atStart => exact ⟨0, _, 0, 0, 0, false, by omega, by omega, rfl, rfl, rfl, rfl, rfl, hC, Nat.le_refl _, hB, by omega, by omega, by omega, by simp⟩
  case round =>
    obtain ⟨k, b, n, m, q, y, hkN, hk3, rfl, rfl, rfl, rfl, rfl, hCt, hbs, hbel, hn0, hnm, hm16, hy⟩ := hrel
    by_cases hlt2 : k < N ∧ k < 300
    · obtain ⟨hkn, hk30⟩ := hlt2
      obtain ⟨hfk, bb, off, rfl, hcell0⟩ := hf k hkn
      have hcell := cell_below hbel hcell0
      generalize hx : f k = x at *
      clear hx
      by_cases h4 : x % 4 = 0
      · have t0 : (((x : Int) % 4) == 0) = true := by rw [beq_iff_eq]; omega
        have hme : (m == 1099511627776) = false := by rw [beq_eq_false_iff_ne]; omega
        have hex : extI m 1099511627776 = m + 16 := if_neg (by omega)
        go_wp2_with fail
        refine (ext_more _ _ _ _ _ hCt hme (by omega)).mono ?_
        rintro e w2 ⟨rfl, hC2, hO2⟩
        rw [hex] at hC2 ⊢
        clear hex
        go_wp2_with fail
        go_roundw
        case rel => exact ⟨k + 1, b, n, m + 16, q, y, by omega, by omega, by go_num, rfl, rfl, rfl, rfl, hC2, hbs, hbel.trans (hO2.below hbs hbel.size), by omega, by omega, by omega, hy⟩
        case measure => simp [intOf]; omega
      · have t0 : (((x : Int) % 4) == 0) = false := by rw [beq_eq_false_iff_ne]; omega
        by_cases h41 : x % 4 = 1
        · have t1 : (((x : Int) % 4) == 1) = true := by rw [beq_iff_eq]; omega
          by_cases h32 : x < 32
          · go_wp2_with fail
            refine (new_any _ _ _ (by omega) (by decide)).mono ?_
            rintro e w2 ⟨rfl, hC2, hB2⟩
            go_wp2_with fail
            go_roundw
            case rel => exact ⟨k + 1, _, m, m, q, y, by omega, by omega, by go_num, rfl, rfl, rfl, rfl, hC2, hbel.size, hbel.trans (hB2.mono hbel.size), by omega, by omega, by omega, fun h => by have := hy h; omega⟩
            case measure => simp [intOf]; omega
          · go_wp2_with fail
            go_roundw
            case rel => exact ⟨k + 1, b, n, m, q, y, by omega, by omega, by go_num, rfl, rfl, rfl, rfl, hCt, hbs, hbel, by omega, by omega, by omega, hy⟩
            case measure => simp [intOf]; omega
        · have t1 : (((x : Int) % 4) == 1) = false := by rw [beq_eq_false_iff_ne]; omega
          by_cases hnme : n = m
          · have hCm : Ctr wr b m m 1099511627776 := by rw [← hnme]; rw [← hnme] at hCt; exact hCt
            have hHr := hH.later hbel
            clear hnme
            go_wp2_with fail
            refine (take_short _ _ _ _ hCm).mono ?_
            rintro e w2 ⟨rfl, rfl⟩
            go_wp2_with fail
            refine (num_err 2 _ hHr).mono ?_
            rintro e w2 ⟨rfl, hb2⟩
            go_wp2_with fail
            refine (left_any _ _ _ _ _ (Blk.below hCm hb2 hCm.lt) (by omega)).mono ?_
            rintro e w3 ⟨rfl, rfl⟩
            rw [show m - m = 0 from by omega]
            go_wp2_with fail
            go_roundw
            case rel => exact ⟨k + 1, b, m, m, q, y, by omega, by omega, by go_num, rfl, rfl, rfl, rfl, Blk.below hCm hb2 hCm.lt, hbs, hbel.trans (hb2.mono hbel.size), by omega, by omega, by omega, fun h => by have := hy h; omega⟩
            case measure => simp [intOf]; omega
          · have hne : (n == m) = false := by rw [beq_eq_false_iff_ne]; exact hnme
            have hlt : n < m := by omega
            clear hnme
            cases y
            · go_wp2_with fail
              refine (take_next _ _ _ _ _ hCt hne (by omega)).mono ?_
              rintro e w2 ⟨rfl, hC2, hO2⟩
              go_wp2_with fail
              go_roundw
              case rel => exact ⟨k + 1, b, n + 1, m, n, true, by omega, by omega, by go_num, rfl, rfl, rfl, rfl, hC2, hbs, hbel.trans (hO2.below hbs hbel.size), by omega, by omega, by omega, fun _ => by omega⟩
              case measure => simp [intOf]; omega
            · have hqn := hy rfl
              go_wp2_with fail
              refine (take_next _ _ _ _ _ hCt hne (by omega)).mono ?_
              rintro e w2 ⟨rfl, hC2, hO2⟩
              go_wp2_with fail
              go_roundw
              case rel => exact ⟨k + 1, b, n + 1, m, n, true, by omega, by omega, by go_num, rfl, rfl, rfl, rfl, hC2, hbs, hbel.trans (hO2.below hbs hbel.size), by omega, by omega, by omega, fun _ => by omega⟩
              case measure => simp [intOf]; omega
    · by_cases hkn : k < N
      · have hk60 : k = 300 := by omega
        subst hk60
        go_wp2_with fail
        refine (sure_any _ (hH.later hbel)).mono ?_
        rintro e w3 ⟨rfl, hb3⟩
        go_wp2_with fail
        go_ret
        exact ⟨rfl, hbel.trans (hb3.mono hbel.size)⟩
      · go_wp2_with fail
        refine (sure_any _ (hH.later hbel)).mono ?_
        rintro e w3 ⟨rfl, hb3⟩
        go_wp2_with fail
        go_ret
        exact ⟨rfl, hbel.trans (hb3.mono hbel.size)⟩

end Go.Proofs.YtkaddilgegimjaaDoor
