/- A hash: its sum. -/
import Derived.Test.YtncfocjmdecapaaGreatDoorZB0
import Derived.Test.YtncfocjmdecapaaGreatDoorZS1
import Derived.Test.YtncfocjmdecapaaGreatDoorZS2
import Derived.Test.YtncfocjmdecapaaGreatDoorZSh4
import Derived.Test.YtncfocjmdecapaaGreatDoorZA0
import Derived.Test.YtncfocjmdecapaaGreatDoorZS5
namespace Go.Proofs.YtncfocjmdecapaaGreatDoor
set_option linter.unusedVariables false
set_option linter.unusedSimpArgs false
open Go.RowKit
theorem num4 (V : Nat) (k d : Nat) (hk : k < 4) (hd : 256 ^ (3 - k) = d) : (V : Int) / (d : Nat) % 256 = ((numB V 4 k : Nat) : Int) := by
  subst hd
  unfold numB
  rw [show 4 - 1 - k = 3 - k by omega]
  generalize 256 ^ (3 - k) = m
  rw [Int.natCast_emod, Int.natCast_ediv]; rfl
theorem num8 (V : Nat) (k d : Nat) (hk : k < 8) (hd : 256 ^ (7 - k) = d) : (V : Int) / (d : Nat) % 256 = ((numB V 8 k : Nat) : Int) := by
  subst hd
  unfold numB
  rw [show 8 - 1 - k = 7 - k by omega]
  generalize 256 ^ (7 - k) = m
  rw [Int.natCast_emod, Int.natCast_ediv]; rfl
def zero32 : Array Value := (rowC 32 (fun _ => 0)).toArray
theorem zero32_run (w : World) : (zeroValue 22).run Tryz.prog w = .ok (.agg zero32) w := by kernel_rfl
theorem info27 (v : Nat → Nat) : (Tryz.prog.info? 22).map (·.size) = some (rowC 32 v).toArray.size := by rw [rowC_size]; kernel_rfl
theorem one32 (v : Nat → Nat) : (rowC 32 v).toArray.all (·.oneCell') = true := all_oneCell_toArray (rowC_one _ _)
theorem one_byte {w : World} {x : Nat} (hx : x < 256) : Bytes (w.alloc (.cells #[.int .u8 (x : Nat)] 5)) (some ⟨w.heap.size, 0, none⟩) 1 (fun _ => x) := fun k hk => ⟨hx, w.heap.size, 0, rfl, by
  obtain rfl : k = 0 := by omega
  exact World.cell?_alloc_mark w #[.int .u8 (x : Int)] 5 (0, 0) 0⟩
/-- How far it is to 56 bytes held. -/
def heldM (g : Nat) (w : World) : Nat := match w.cell? ⟨g, 72, none⟩ with
  | some (.int _ k) => (120 - k.toNat) % 64
  | _ => 0
theorem HS.heldM {w : World} {g n : Nat} {F : Nat → Nat} (h : HS w g n F) : heldM g w = (120 - n % 64) % 64 := by
  obtain ⟨_, R, h1, _⟩ := h
  have := HB.held h1
  unfold Proofs.YtncfocjmdecapaaGreatDoor.heldM; rw [this]; rfl
theorem HS.all {w : World} {g n : Nat} {F : Nat → Nat} (h : HS w g n F) : w.cell? ⟨g, 73, none⟩ = some (.int .u64 (n : Nat)) := by
  obtain ⟨_, R, h1, _⟩ := h; exact HB.all h1
theorem HS.held {w : World} {g n : Nat} {F : Nat → Nat} (h : HS w g n F) : w.cell? ⟨g, 72, none⟩ = some (.int .i64 (n % 64 : Nat)) := by
  obtain ⟨_, R, h1, _⟩ := h; exact HB.held h1
/-- While a sum is taken. -/
structure SS (w0 : World) (g p : Nat) (F : Nat → Nat) (wr : World) : Prop where
  h : HS wr g p F
  r : RB 22 32 w0.heap.size (fun _ => 0) wr
  s : RB 22 32 (w0.heap.size + 1) (fun _ => 0) wr
  o : Below w0.heap.size w0 wr
  v : GV wr
  n : w0.heap.size + 1 < g
theorem SS.write {w0 : World} {g p x : Nat} {F : Nat → Nat} {wr w1 w2 : World} (h : SS w0 g p F wr) (h1 : Below wr.heap.size wr w1) (h2 : HS w2 g (p + 1) (catF p F (fun _ => x))) (hO : Own g w1 w2) (hx : F p = x) : SS w0 g (p + 1) F w2 := by
  have h3 := h.h.lt
  refine ⟨h2.congr fun i hi => ?_, hO.blk (Blk.below h.r h1 (Blk.lt h.r)) (by have := h.n; omega), hO.blk (Blk.below h.s h1 (Blk.lt h.s)) (by have := h.n; omega), ?_, (h.v.later h1).own hO h.h.1.1 h.h.1.2, h.n⟩
  · unfold catF
    by_cases e : i < p
    · rw [if_pos e]
    · rw [if_neg e, ← hx, show i = p by omega]
  · have h4 := h.o.trans (h1.mono h.o.size)
    exact h4.trans (hO.below (by have := h.n; omega) h4.size)
/-- One byte more: the call. -/
theorem SS.call {w0 : World} {g p x : Nat} {F : Nat → Nat} {wr : World} (h : SS w0 g p F wr) (hp : p < 999999999999) (hx8 : x < 256) (hx : F p = x) :
    Calls Tryz.prog 63 #[.pointer (some ⟨g, 0, none⟩), .slice (some ⟨wr.heap.size, 0, none⟩) 1 1] (wr.alloc (.cells #[.int .u8 (x : Nat)] 5)) fun e w' => e = .returned (.tuple #[]) ∧ SS w0 g (p + 1) F w' := by
  have hb : Below wr.heap.size wr (wr.alloc (.cells #[.int .u8 (x : Nat)] 5)) := (Below.refl _ _).alloc (Nat.le_refl _) _
  refine (write_any g p 1 1 _ F (fun _ => x) _ (h.h.later hb) (one_byte hx8) (Nat.le_refl _) (fun a ha _ => ?_) (by omega) (h.v.later hb)).mono ?_
  · cases ha; have := h.h.lt; show wr.heap.size ≠ g; omega
  · rintro e w' ⟨rfl, h2, hO⟩
    exact ⟨rfl, h.write hb h2 hO hx⟩
theorem pad_128 (n : Nat) (F : Nat → Nat) : padN n F n = 128 := by unfold padN; rw [if_neg (Nat.lt_irrefl _), if_pos rfl]
theorem pad_0 (n : Nat) (F : Nat → Nat) {i : Nat} (h1 : n < i) (h2 : i < 64 * blkN n - 8) : padN n F i = 0 := by unfold padN; rw [if_neg (by omega), if_neg (by omega), if_pos h2]
theorem pad_n (n : Nat) (F : Nat → Nat) {i : Nat} (h : i < 8) : padN n F (64 * blkN n - 8 + i) = numB (8 * n) 8 i := by
  have : n + 1 ≤ 64 * blkN n - 8 := by unfold blkN; omega
  unfold padN; rw [if_neg (by omega), if_neg (by omega), if_neg (by omega), Nat.add_sub_cancel_left]
theorem run_index56 (W : Nat → Nat) (t : Nat) (ht : t < 8) (w : World) : (Instr.index 149 (.agg (rowW 8 W).toArray) (.int .i64 (t : Int))).run Tryz.prog w = .ok (.int .u32 (W t : Nat)) w := by
  have h1 : Tryz.prog.underlying 149 = some (.array 8 23) := Tryz.underlying149
  have h2 : (isAgg 23).run Tryz.prog w = .ok false w := by
    unfold isAgg; rw [Sem.run_bind, run_underlying Tryz.underlying23 w]; rfl
  have h3 : (sizeOf 23).run Tryz.prog w = .ok 1 w := by kernel_rfl
  have h4 : (0 : Int) ≤ (t : Int) ∧ (t : Int) < ((8 : Nat) : Int) := by omega
  have h5 : (t : Int).toNat * 1 = t := by omega
  have h6 : (rowW 8 W).toArray[t]? = some (.int .u32 (W t : Nat)) := by rw [List.getElem?_toArray]; exact rowW_get W ht
  unfold Instr.index part
  simp only [asIntOf, Sem.run_bind, Sem.run_pure, Result.andThen_ok, run_underlying h1]
  rw [if_pos h4]
  simp only [Sem.run_bind, Result.andThen_ok, h2, h3, h5, h6, Bool.false_eq_true, if_false, Sem.run_pure]
/-- While a sum's bytes are laid. -/
structure SD (w0 : World) (D : Nat → Nat) (wr : World) : Prop where
  r : RB 22 32 w0.heap.size (fun _ => 0) wr
  s : RB 22 32 (w0.heap.size + 1) D wr
  o : Below w0.heap.size w0 wr
theorem SD.set {w0 : World} {D : Nat → Nat} {wr : World} (h : SD w0 D wr) (k x : Nat) : SD w0 (upd D k x) (wr.setCell ⟨w0.heap.size + 1, k, none⟩ (.int .u8 (x : Nat))) :=
  ⟨Blk.set_other h.r (by simp) _, h.s.set k x, h.o.setCell (by simp) _⟩
theorem SD.congr {w0 : World} {D E : Nat → Nat} {wr : World} (h : SD w0 D wr) (he : ∀ i, i < 32 → D i = E i) : SD w0 E wr := ⟨h.r, h.s.congr he, h.o⟩
set_option maxRecDepth 100000 in
set_option maxHeartbeats 8000000 in
theorem hsum_any (g n : Nat) (F : Nat → Nat) (w : World) (h : HS w g n F) (hn : n < 900000000000) (hg : GV w) :
    Calls Tryz.prog 64 #[.pointer (some ⟨g, 0, none⟩)] w fun e w' => e = .returned (.agg (rowC 32 (shaN n F)).toArray) ∧ Below w.heap.size w w' := by
  have hz := zero32_run
  obtain ⟨wa, hwa⟩ : ∃ q, (w.alloc (.cells zero32 22)).alloc (.cells zero32 22) = q := ⟨_, rfl⟩
  have hb : Below w.heap.size w wa := by rw [← hwa]; exact ((Below.refl _ _).alloc (Nat.le_refl _) _).alloc (by simp) _
  have HA : Hid (RB 22 32 w.heap.size (fun _ => 0) wa ∧ RB 22 32 (w.heap.size + 1) (fun _ => 0) wa ∧ Below w.heap.size w wa ∧ GV wa ∧ HS wa g n F ∧ wa.heap.size = w.heap.size + 1 + 1) := Lib.hid (by
    refine ⟨?_, ?_, hb, hg.later hb, h.later hb, by rw [← hwa]; simp⟩
    · rw [← hwa]; exact (Blk.new w zero32 22).alloc _
    · rw [← hwa]; simpa [RB, zero32] using Blk.new (w.alloc (.cells zero32 22)) zero32 22)
  have HNB := Lib.hid hn
  obtain ⟨T, hT⟩ : ∃ T, 64 * blkN n - 8 = T := ⟨_, rfl⟩
  have HT : Hid (64 * blkN n - 8 = T ∧ n + 1 ≤ T ∧ T % 64 = 56 ∧ T < n + 72 ∧ T + 8 = 64 * blkN n) := Lib.hid (by unfold blkN at hT ⊢; omega)
  have hc8 : IntKind.u64.wrap ((n : Int) * 8) = ((8 * n : Nat) : Int) := by simp [IntKind.wrap, IntKind.bits, IntKind.signed]; omega
  have hc9 : (n : Int) * 8 = ((8 * n : Nat) : Int) := by omega
  obtain ⟨N8, hN8⟩ : ∃ N, 8 * n = N := ⟨_, rfl⟩
  rw [hN8] at hc8 hc9
  have HN8 : Hid (8 * n = N8 ∧ N8 < 18446744073709551616) := Lib.hid ⟨hN8, by omega⟩
  have hc7 : IntKind.u64.wrap (N8 : Int) = (N8 : Int) := by simp [IntKind.wrap, IntKind.bits, IntKind.signed]; omega
  have hc6 : (N8 : Int) % 18446744073709551616 = (N8 : Int) := by omega
  obtain ⟨Pd, hPd⟩ : ∃ Q, padN n F = Q := ⟨_, rfl⟩
  have HP : Hid (padN n F = Pd) := Lib.hid hPd
  obtain ⟨D, hD⟩ : ∃ D, shaN n F = D := ⟨_, rfl⟩
  have HDD := Lib.hid hD
  rw [hD]
  clear h hg hb hT hN8 hPd hn hD
  go_enter Tryz.func64, Tryz.ntmps64
  go_wp2_with fail
  clear hz hwa
  refine (hclone_any g n F _ HA.out.2.2.2.2.1 HA.out.2.2.2.1).mono ?_
  rintro e w1 ⟨e1, rfl, hc1, hb1, hge⟩
  have HS1 : Hid (SS w e1 n Pd w1) := Lib.hid (by
    obtain ⟨a1, a2, a3, a4, a5, a6⟩ := HA.out
    refine ⟨hc1.congr fun i hi => ?_, Blk.below a1 hb1 (Blk.lt a1), Blk.below a2 hb1 (Blk.lt a2), a3.trans (hb1.mono a3.size), a4.later hb1, by omega⟩
    rw [← HP.out]; exact (if_pos hi).symm)
  clear hc1 hb1 hge HA
  have c73 := HS1.out.h.all
  go_wp2_with fail
  clear c73 hc8 hc9
  refine (HS1.out.call (by have := HNB.out; omega) (show 128 < 256 by decide) (by rw [← HP.out]; exact pad_128 n F)).mono ?_
  rintro e w2 ⟨rfl, hS2⟩
  have HS2 := Lib.hid hS2
  clear hS2 HS1
  go_wp2_with fail
  go_loopw [29] (fun _ wr => ∃ p : Nat, n + 1 ≤ p ∧ p ≤ T ∧ SS w e1 p Pd wr) (fun _ wr => heldM e1 wr)
  case atStart => exact ⟨n + 1, Nat.le_refl _, HT.out.2.1, HS2.out⟩
  case round =>
    clear HS2
    obtain ⟨p, hp1, hp2, hS⟩ := hrel
    have HS3 := Lib.hid hS
    have c72 := hS.h.held
    clear hS
    have HHM : Hid (heldM e1 wr = (120 - p % 64) % 64) := Lib.hid HS3.out.h.heldM
    by_cases hlt : p < T
    · have h56 : p % 64 ≠ 56 := by
        have := HT.out
        have hbk : blkN n = (n + 8) / 64 + 1 := rfl
        omega
      have h56' : ¬ ((p % 64 : Nat) : Int) = 56 := by omega
      have HPN : Hid (n + 1 ≤ p ∧ p < T ∧ p % 64 ≠ 56) := Lib.hid ⟨hp1, hlt, h56⟩
      obtain ⟨k, hk⟩ : ∃ k, p % 64 = k := ⟨_, rfl⟩
      rw [hk] at c72 h56'
      have HK := Lib.hid hk
      clear hk h56 hlt hp1 hp2
      go_wp2_with fail
      refine (HS3.out.call (by have := HPN.out; have := HT.out; have := HNB.out; omega) (show 0 < 256 by decide) (by rw [← HP.out]; exact pad_0 n F (by have := HPN.out; omega) (by rw [HT.out.1]; exact HPN.out.2.1))).mono ?_
      rintro e w3 ⟨rfl, hS4⟩
      have HS4 := Lib.hid hS4
      clear hS4 c72 h56'
      go_wp2_with fail
      go_roundw
      case rel => exact ⟨p + 1, by have := HPN.out; omega, by have := HPN.out; omega, HS4.out⟩
      case measure => rw [HHM.out, HS4.out.h.heldM]; have := HPN.out; omega
    · obtain rfl : p = T := by omega
      have h56 : ((p % 64 : Nat) : Int) = 56 := by have := HT.out.2.2.1; omega
      rw [h56] at c72
      clear h56 hlt hp1 hp2 HHM
      go_wp2_with fail
      clear c72
      go_loopw [6] (fun v wr => ∃ i : Nat, i ≤ 8 ∧ v = .int .i64 (56 - 8 * (i : Int)) ∧ SS w e1 (p + i) Pd wr) (fun v _ => (intOf v + 8).toNat)
      case atStart => exact ⟨0, Nat.zero_le _, rfl, HS3.out⟩
      case round =>
        clear HS3
        obtain ⟨i, hi, rfl, hS⟩ := hrel
        have HS3 := Lib.hid hS
        clear hS
        rcases (by omega : i = 0 ∨ i = 1 ∨ i = 2 ∨ i = 3 ∨ i = 4 ∨ i = 5 ∨ i = 6 ∨ i = 7 ∨ i = 8) with rfl | rfl | rfl | rfl | rfl | rfl | rfl | rfl | rfl
        · rw [show (56 - 8 * ((0 : Nat) : Int)) = 56 from rfl]
          obtain ⟨x, hx⟩ : ∃ x, numB N8 8 0 = x := ⟨_, rfl⟩
          have hx8 : x < 256 := by rw [← hx]; exact numB_lt _ _ _
          have v0 : (N8 : Int) / 72057594037927936 % 256 = (x : Int) := by
            have := num8 N8 0 72057594037927936 (by decide) (by decide)
            rw [hx] at this
            rw [show (((72057594037927936 : Nat) : Int)) = 72057594037927936 from rfl] at this; exact this
          have v2 : (N8 : Int) / 72057594037927936 = (x : Int) := by have := HN8.out.2; rw [← v0]; omega
          have v3 : (x : Int) % 256 = (x : Int) := by omega
          have v1 : (N8 : Int) / 72057594037927936 % 18446744073709551616 = (N8 : Int) / 72057594037927936 := by have := HN8.out.2; omega
          have HX : Hid (Pd (p + 0) = x ∧ x < 256) := Lib.hid ⟨by rw [← HP.out, ← HT.out.1, pad_n n F (by decide), HN8.out.1, hx], hx8⟩
          clear hx hx8
          go_wp2_with fail
          clear v0 v1 v2 v3
          refine (HS3.out.call (by have := HT.out; have := HNB.out; omega) HX.out.2 HX.out.1).mono ?_
          rintro e w3 ⟨rfl, hS4⟩
          have HS4 := Lib.hid hS4
          clear hS4
          go_wp2_with fail
          go_roundw
          case rel => exact ⟨1, by decide, rfl, HS4.out⟩
          case measure => decide
        · rw [show (56 - 8 * ((1 : Nat) : Int)) = 48 from rfl]
          obtain ⟨x, hx⟩ : ∃ x, numB N8 8 1 = x := ⟨_, rfl⟩
          have hx8 : x < 256 := by rw [← hx]; exact numB_lt _ _ _
          have v0 : (N8 : Int) / 281474976710656 % 256 = (x : Int) := by
            have := num8 N8 1 281474976710656 (by decide) (by decide)
            rw [hx] at this
            rw [show (((281474976710656 : Nat) : Int)) = 281474976710656 from rfl] at this; exact this
          have v1 : (N8 : Int) / 281474976710656 % 18446744073709551616 = (N8 : Int) / 281474976710656 := by have := HN8.out.2; omega
          have HX : Hid (Pd (p + 1) = x ∧ x < 256) := Lib.hid ⟨by rw [← HP.out, ← HT.out.1, pad_n n F (by decide), HN8.out.1, hx], hx8⟩
          clear hx hx8
          go_wp2_with fail
          clear v0 v1
          refine (HS3.out.call (by have := HT.out; have := HNB.out; omega) HX.out.2 HX.out.1).mono ?_
          rintro e w3 ⟨rfl, hS4⟩
          have HS4 := Lib.hid hS4
          clear hS4
          go_wp2_with fail
          go_roundw
          case rel => exact ⟨2, by decide, rfl, HS4.out⟩
          case measure => decide
        · rw [show (56 - 8 * ((2 : Nat) : Int)) = 40 from rfl]
          obtain ⟨x, hx⟩ : ∃ x, numB N8 8 2 = x := ⟨_, rfl⟩
          have hx8 : x < 256 := by rw [← hx]; exact numB_lt _ _ _
          have v0 : (N8 : Int) / 1099511627776 % 256 = (x : Int) := by
            have := num8 N8 2 1099511627776 (by decide) (by decide)
            rw [hx] at this
            rw [show (((1099511627776 : Nat) : Int)) = 1099511627776 from rfl] at this; exact this
          have v1 : (N8 : Int) / 1099511627776 % 18446744073709551616 = (N8 : Int) / 1099511627776 := by have := HN8.out.2; omega
          have HX : Hid (Pd (p + 2) = x ∧ x < 256) := Lib.hid ⟨by rw [← HP.out, ← HT.out.1, pad_n n F (by decide), HN8.out.1, hx], hx8⟩
          clear hx hx8
          go_wp2_with fail
          clear v0 v1
          refine (HS3.out.call (by have := HT.out; have := HNB.out; omega) HX.out.2 HX.out.1).mono ?_
          rintro e w3 ⟨rfl, hS4⟩
          have HS4 := Lib.hid hS4
          clear hS4
          go_wp2_with fail
          go_roundw
          case rel => exact ⟨3, by decide, rfl, HS4.out⟩
          case measure => decide
        · rw [show (56 - 8 * ((3 : Nat) : Int)) = 32 from rfl]
          obtain ⟨x, hx⟩ : ∃ x, numB N8 8 3 = x := ⟨_, rfl⟩
          have hx8 : x < 256 := by rw [← hx]; exact numB_lt _ _ _
          have v0 : (N8 : Int) / 4294967296 % 256 = (x : Int) := by
            have := num8 N8 3 4294967296 (by decide) (by decide)
            rw [hx] at this
            rw [show (((4294967296 : Nat) : Int)) = 4294967296 from rfl] at this; exact this
          have v1 : (N8 : Int) / 4294967296 % 18446744073709551616 = (N8 : Int) / 4294967296 := by have := HN8.out.2; omega
          have HX : Hid (Pd (p + 3) = x ∧ x < 256) := Lib.hid ⟨by rw [← HP.out, ← HT.out.1, pad_n n F (by decide), HN8.out.1, hx], hx8⟩
          clear hx hx8
          go_wp2_with fail
          clear v0 v1
          refine (HS3.out.call (by have := HT.out; have := HNB.out; omega) HX.out.2 HX.out.1).mono ?_
          rintro e w3 ⟨rfl, hS4⟩
          have HS4 := Lib.hid hS4
          clear hS4
          go_wp2_with fail
          go_roundw
          case rel => exact ⟨4, by decide, rfl, HS4.out⟩
          case measure => decide
        · rw [show (56 - 8 * ((4 : Nat) : Int)) = 24 from rfl]
          obtain ⟨x, hx⟩ : ∃ x, numB N8 8 4 = x := ⟨_, rfl⟩
          have hx8 : x < 256 := by rw [← hx]; exact numB_lt _ _ _
          have v0 : (N8 : Int) / 16777216 % 256 = (x : Int) := by
            have := num8 N8 4 16777216 (by decide) (by decide)
            rw [hx] at this
            rw [show (((16777216 : Nat) : Int)) = 16777216 from rfl] at this; exact this
          have v1 : (N8 : Int) / 16777216 % 18446744073709551616 = (N8 : Int) / 16777216 := by have := HN8.out.2; omega
          have HX : Hid (Pd (p + 4) = x ∧ x < 256) := Lib.hid ⟨by rw [← HP.out, ← HT.out.1, pad_n n F (by decide), HN8.out.1, hx], hx8⟩
          clear hx hx8
          go_wp2_with fail
          clear v0 v1
          refine (HS3.out.call (by have := HT.out; have := HNB.out; omega) HX.out.2 HX.out.1).mono ?_
          rintro e w3 ⟨rfl, hS4⟩
          have HS4 := Lib.hid hS4
          clear hS4
          go_wp2_with fail
          go_roundw
          case rel => exact ⟨5, by decide, rfl, HS4.out⟩
          case measure => decide
        · rw [show (56 - 8 * ((5 : Nat) : Int)) = 16 from rfl]
          obtain ⟨x, hx⟩ : ∃ x, numB N8 8 5 = x := ⟨_, rfl⟩
          have hx8 : x < 256 := by rw [← hx]; exact numB_lt _ _ _
          have v0 : (N8 : Int) / 65536 % 256 = (x : Int) := by
            have := num8 N8 5 65536 (by decide) (by decide)
            rw [hx] at this
            rw [show (((65536 : Nat) : Int)) = 65536 from rfl] at this; exact this
          have v1 : (N8 : Int) / 65536 % 18446744073709551616 = (N8 : Int) / 65536 := by have := HN8.out.2; omega
          have HX : Hid (Pd (p + 5) = x ∧ x < 256) := Lib.hid ⟨by rw [← HP.out, ← HT.out.1, pad_n n F (by decide), HN8.out.1, hx], hx8⟩
          clear hx hx8
          go_wp2_with fail
          clear v0 v1
          refine (HS3.out.call (by have := HT.out; have := HNB.out; omega) HX.out.2 HX.out.1).mono ?_
          rintro e w3 ⟨rfl, hS4⟩
          have HS4 := Lib.hid hS4
          clear hS4
          go_wp2_with fail
          go_roundw
          case rel => exact ⟨6, by decide, rfl, HS4.out⟩
          case measure => decide
        · rw [show (56 - 8 * ((6 : Nat) : Int)) = 8 from rfl]
          obtain ⟨x, hx⟩ : ∃ x, numB N8 8 6 = x := ⟨_, rfl⟩
          have hx8 : x < 256 := by rw [← hx]; exact numB_lt _ _ _
          have v0 : (N8 : Int) / 256 % 256 = (x : Int) := by
            have := num8 N8 6 256 (by decide) (by decide)
            rw [hx] at this
            rw [show (((256 : Nat) : Int)) = 256 from rfl] at this; exact this
          have v1 : (N8 : Int) / 256 % 18446744073709551616 = (N8 : Int) / 256 := by have := HN8.out.2; omega
          have HX : Hid (Pd (p + 6) = x ∧ x < 256) := Lib.hid ⟨by rw [← HP.out, ← HT.out.1, pad_n n F (by decide), HN8.out.1, hx], hx8⟩
          clear hx hx8
          go_wp2_with fail
          clear v0 v1
          refine (HS3.out.call (by have := HT.out; have := HNB.out; omega) HX.out.2 HX.out.1).mono ?_
          rintro e w3 ⟨rfl, hS4⟩
          have HS4 := Lib.hid hS4
          clear hS4
          go_wp2_with fail
          go_roundw
          case rel => exact ⟨7, by decide, rfl, HS4.out⟩
          case measure => decide
        · rw [show (56 - 8 * ((7 : Nat) : Int)) = 0 from rfl]
          obtain ⟨x, hx⟩ : ∃ x, numB N8 8 7 = x := ⟨_, rfl⟩
          have hx8 : x < 256 := by rw [← hx]; exact numB_lt _ _ _
          have v0 : (N8 : Int) % 256 = (x : Int) := by
            have := num8 N8 7 1 (by decide) (by decide)
            rw [hx] at this
            rw [show (((1 : Nat) : Int)) = 1 from rfl, Int.ediv_one] at this; exact this
          have v1 : (N8 : Int) % 18446744073709551616 = (N8 : Int) := by have := HN8.out.2; omega
          have HX : Hid (Pd (p + 7) = x ∧ x < 256) := Lib.hid ⟨by rw [← HP.out, ← HT.out.1, pad_n n F (by decide), HN8.out.1, hx], hx8⟩
          clear hx hx8
          go_wp2_with fail
          clear v0 v1
          refine (HS3.out.call (by have := HT.out; have := HNB.out; omega) HX.out.2 HX.out.1).mono ?_
          rintro e w3 ⟨rfl, hS4⟩
          have HS4 := Lib.hid hS4
          clear hS4
          go_wp2_with fail
          go_roundw
          case rel => exact ⟨8, by decide, rfl, HS4.out⟩
          case measure => decide
        · have HE : Hid (SS w e1 (64 * blkN n) Pd wr) := Lib.hid (by rw [← HT.out.2.2.2.2]; exact HS3.out)
          rw [show (56 - 8 * ((8 : Nat) : Int)) = -8 from rfl]
          obtain ⟨CK, hCK⟩ : ∃ C, chK Pd (blkN n) = C := ⟨_, rfl⟩
          obtain ⟨hgx, R, hB, hRx⟩ := HE.out.h
          rw [show 64 * blkN n / 64 = blkN n by omega, hCK] at hB
          obtain ⟨L1, hL1⟩ : ∃ L, rowW 8 CK = L := ⟨_, rfl⟩
          have HRW : Hid (wr.rangeAt e1 0 L1) := Lib.hid (hL1 ▸ hB.rangeW)
          have HI1 : Hid ((Tryz.prog.info? 149).map (·.size) = some L1.length) := Lib.hid (hL1 ▸ info56l _)
          have HIX : Hid (∀ t w', t < 8 → (Instr.index 149 (.agg L1.toArray) (.int .i64 (t : Nat))).run Tryz.prog w' = .ok (.int .u32 (CK t : Nat)) w') := Lib.hid fun t w' ht => by rw [← hL1]; exact run_index56 _ t ht w'
          have HD0 : Hid (SD w (fun _ => 0) wr) := Lib.hid ⟨HE.out.r, HE.out.s, HE.out.o⟩
          have HDK : Hid (∀ i k, k < 4 → D (4 * i + k) = numB (CK i) 4 k) := Lib.hid fun i k hk => by
            rw [← HDD.out, ← hCK, ← HP.out]; unfold shaN; rw [show (4 * i + k) / 4 = i by omega, show (4 * i + k) % 4 = k by omega]
          have HKL : Hid (∀ i, CK i < 4294967296) := Lib.hid fun i => by rw [← hCK]; exact chK_lt _ _ _
          clear hB hgx hRx hL1 hCK HE HS3 hi
          go_wp2_with (first | (refine wpList_load_mid rfl 149 (.tmp 43) rfl e1 0 rfl L1 _ HRW.out Tryz.underlying149 rfl HI1.out ?_))
          clear HRW HI1
          go_loopw [45] (fun v wr => ∃ i : Nat, i ≤ 8 ∧ v = .int .i64 (i : Int) ∧ SD w (fun j => if j < 4 * i then D j else 0) wr) (fun v _ => 8 - (intOf v).toNat)
          case atStart => exact ⟨0, Nat.zero_le _, rfl, HD0.out.congr fun i _ => (if_neg (Nat.not_lt_zero _)).symm⟩
          case round =>
            clear HD0
            obtain ⟨i, hi, rfl, hX⟩ := hrel
            have HX := Lib.hid hX
            by_cases hli : i < 8
            · have i0 : (0 : Int) ≤ (i : Int) := by omega
              have i1 : (i : Int) < 8 := by omega
              have HIT := Lib.hid (fun w' => HIX.out i w' hli)
              have hV := HKL.out i
              have hat : ∀ k, k < 4 → D (4 * i + k) = numB (CK i) 4 k := fun k hk => HDK.out i k hk
              obtain ⟨V, hVV⟩ : ∃ V, CK i = V := ⟨_, rfl⟩
              rw [hVV] at HIT hV
              simp only [hVV] at hat
              have h0 := hat 0 (by decide); have h1 := hat 1 (by decide); have h2 := hat 2 (by decide); have h3 := hat 3 (by decide)
              have v0 := num4 V 0 16777216 (by decide) (by decide)
              have v1 := num4 V 1 65536 (by decide) (by decide)
              have v2 := num4 V 2 256 (by decide) (by decide)
              have v3 := num4 V 3 1 (by decide) (by decide)
              rw [← h0] at v0
              rw [← h1] at v1
              rw [← h2] at v2
              rw [← h3] at v3
              rw [show (((1 : Nat) : Int)) = 1 from rfl, Int.ediv_one] at v3
              rw [show (((16777216 : Nat) : Int)) = 16777216 from rfl] at v0
              rw [show (((65536 : Nat) : Int)) = 65536 from rfl] at v1
              rw [show (((256 : Nat) : Int)) = 256 from rfl] at v2
              have HN := Lib.hid (show SD w (fun j => if j < 4 * (i + 1) then D j else 0) ((((wr.setCell ⟨w.heap.size + 1, 4 * i, none⟩ (.int .u8 (D (4 * i + 0) : Nat))).setCell ⟨w.heap.size + 1, 4 * i + 1, none⟩ (.int .u8 (D (4 * i + 1) : Nat))).setCell ⟨w.heap.size + 1, 4 * i + 2, none⟩ (.int .u8 (D (4 * i + 2) : Nat))).setCell ⟨w.heap.size + 1, 4 * i + 3, none⟩ (.int .u8 (D (4 * i + 3) : Nat))) from
                ((((hX.set (4 * i) _).set (4 * i + 1) _).set (4 * i + 2) _).set (4 * i + 3) _).congr fun j hj => by
                  unfold upd
                  by_cases e3 : j = 4 * i + 3
                  · subst e3; rw [if_pos rfl, if_pos (by omega)]
                  · rw [if_neg e3]
                    by_cases e2 : j = 4 * i + 2
                    · subst e2; rw [if_pos rfl, if_pos (by omega)]
                    · rw [if_neg e2]
                      by_cases e1 : j = 4 * i + 1
                      · subst e1; rw [if_pos rfl, if_pos (by omega)]
                      · rw [if_neg e1]
                        by_cases e0 : j = 4 * i
                        · subst e0; rw [if_pos rfl, if_pos (by omega)]; rfl
                        · rw [if_neg e0]
                          show (if j < 4 * i then D j else 0) = if j < 4 * (i + 1) then D j else 0
                          by_cases h5 : j < 4 * i
                          · rw [if_pos h5, if_pos (by omega)]
                          · rw [if_neg h5, if_neg (by omega)])
              have cc : ∀ k, k < 4 → wr.cell? ⟨w.heap.size + 1, 4 * i + k, none⟩ = some (.int .u8 0) := fun k hk => hX.s.val (by omega) (if_neg (by omega))
              have c0 := cc 0 (by decide)
              have c1 := cc 1 (by decide)
              have c2 := cc 2 (by decide)
              have c3 := cc 3 (by decide)
              have z0 : wr.frozen? ⟨w.heap.size + 1, 4 * i, none⟩ = false := hX.s.free _
              have z1 : wr.frozen? ⟨w.heap.size + 1, 4 * i + 1, none⟩ = false := hX.s.free _
              have z2 : wr.frozen? ⟨w.heap.size + 1, 4 * i + 2, none⟩ = false := hX.s.free _
              have z3 : wr.frozen? ⟨w.heap.size + 1, 4 * i + 3, none⟩ = false := hX.s.free _
              simp only [Nat.add_zero] at c0 HN v0
              generalize D (4 * i) = b0 at *
              generalize D (4 * i + 1) = b1 at *
              generalize D (4 * i + 2) = b2 at *
              generalize D (4 * i + 3) = b3 at *
              clear cc hat h0 h1 h2 h3 hX HX hVV hi hli
              generalize ((V : Nat) : Int) = VI at *
              go_wp2_with (first | (refine wpList_value rfl (exec_index (.tmp 44) (.tmp 45) rfl rfl rfl (HIT.out _)) ?_))
              go_roundw
              case rel => exact ⟨i + 1, by omega, by go_num, HN.out⟩
              case measure => simp [intOf] <;> omega
            · obtain rfl : i = 8 := by omega
              have hY : RB 22 32 (w.heap.size + 1) D wr := HX.out.s.congr fun j hj => if_pos hj
              have hN : RB 22 32 w.heap.size D (wr.setCells w.heap.size 0 (rowC 32 D).toArray.toList) := Blk.setCells HX.out.r (rowC 32 D) (by rw [rowC_size, rowC_len])
              have hO : Below w.heap.size w (wr.setCells w.heap.size 0 (rowC 32 D).toArray.toList) := HX.out.o.trans ((Own.setCells _ 0 wr).below (Nat.le_refl _) HX.out.o.size)
              have hTH : wr.there w.heap.size 0 (rowC 32 D).toArray.size := Blk.there HX.out.r (by rw [rowC_size, rowC_size]; exact Nat.le_refl _)
              have hI := info27 D
              have hI1 := one32 D
              obtain ⟨E, hE⟩ : ∃ C, (rowC 32 D).toArray = C := ⟨_, rfl⟩
              unfold RB at hN hY
              rw [hE] at hN hY hO hTH hI hI1
              have HN := Lib.hid hN
              have HY := Lib.hid hY
              have HO := Lib.hid hO
              have HTH := Lib.hid hTH
              have HI := Lib.hid hI
              have HI1 := Lib.hid hI1
              have HE := Lib.hid hE
              clear hN hY hO hTH hI hI1 hE hli hi hX HX
              go_wp2_with (first
                | (refine wpList_load_row rfl 22 (.tmp 3) rfl (w.heap.size + 1) rfl 22 E (0, 0) _ HY.out Tryz.underlying22 rfl HI.out ?_)
                | (refine wpList_store_mid rfl 22 (.tmp 2) (.tmp 76) rfl w.heap.size 0 E rfl rfl HTH.out HI.out HI1.out ?_))
              refine bodyPost_ret (v := .agg E) ?_ rfl ⟨by rw [HE.out], HO.out⟩
              exact results_cell_row Tryz.results64 _ _ w.heap.size 22 E (0, 0) _ rfl HN.out Tryz.underlying22 rfl HI.out
end Go.Proofs.YtncfocjmdecapaaGreatDoor
