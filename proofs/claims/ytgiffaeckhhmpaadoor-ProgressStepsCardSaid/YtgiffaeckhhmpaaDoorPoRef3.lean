/- Contracts of the document's own weights, values and products of layer 2. -/
import Derived.Test.YtgiffaeckhhmpaaDoorPoRef
import Derived.Test.YtgiffaeckhhmpaaDoorPoHlp
import Derived.IntWalk
namespace Go.Proofs.YtgiffaeckhhmpaaDoor
set_option linter.unusedVariables false
set_option linter.unusedSimpArgs false
open Go.RowKit

set_option maxRecDepth 100000 in
set_option maxHeartbeats 800000 in
theorem rweights_bad (oa : Option Addr) (n cp : Nat) (f : Nat → Nat) (x : Int) (w : World) (hb : Bytes w oa n f) (hn : n ≤ maxLen) (hp : placesB f n = false) :
    Calls Tryd.prog 44 #[.slice oa n cp, .int .u8 x] w fun e w' => e = .returned (.tuple #[.slice none 0 0, .int .i64 1]) ∧ Below w.heap.size w w' := by
  have HP := Lib.hid (rmay_any oa n cp f false w hb hn hp)
  have hnot : ∀ (x : Bool) (w : World), (Op.unary .not (.bool x)).run Tryd.prog w = .ok (.bool (!x)) w := fun _ _ => rfl
  clear hb hp
  go_enter Tryd.func44, Tryd.ntmps44
  go_wp2_with fail
  refine HP.out.mono ?_
  rintro e w1 ⟨rfl, hb1⟩
  go_wp2_with fail
  go_ret2
  exact ⟨rfl, hb1⟩

/-- What is answered: bytes in new memory, and no error. -/
def NewBytes (w : World) (n : Nat) (F : Nat → Nat) (e : Ending) (w' : World) : Prop := ∃ v, e = .returned (.tuple #[v, .int .i64 0]) ∧ Grow w' w.heap.size v n F ∧ Below w.heap.size w w'

set_option maxRecDepth 100000 in
set_option maxHeartbeats 4000000 in
theorem rweights_any (oa : Option Addr) (n cp : Nat) (f : Nat → Nat) (x : Nat) (w : World) (hb : Bytes w oa n f) (hn : n ≤ maxLen) (hx : x < 256) (hp : placesB f n = true) :
    Calls Tryd.prog 44 #[.slice oa n cp, .int .u8 x] w (NewBytes w n (fun a => wF f a x n)) := by
  have HP := Lib.hid (rmay_any oa n cp f true w hb hn hp)
  have hnot : ∀ (x : Bool) (w : World), (Op.unary .not (.bool x)).run Tryd.prog w = .ok (.bool (!x)) w := fun _ _ => rfl
  obtain ⟨hd, h1n, hn255⟩ := placesB_iff.1 hp
  have hm : (n : Int) ≤ 255 := by omega
  have HD : Hid _ := hd
  have HB : Hid _ := hb
  clear hb hp hd hn
  go_enter Tryd.func44, Tryd.ntmps44
  go_wp2_with fail
  refine HP.out.mono ?_
  rintro e w1 ⟨rfl, hb1⟩
  go_wp2_with fail
  go_loopw [6, 7] (fun v i wr => ∃ k : Nat, k ≤ n ∧ i = .int .i64 k ∧ Grow wr w.heap.size v k (fun a => wF f a x n) ∧ Below w.heap.size w wr) (fun _ i _ => n - (intOf i).toNat)
  case atStart => exact ⟨0, Nat.zero_le _, rfl, Grow.nil _ _ _, hb1⟩
  case round =>
    obtain ⟨k, hk, rfl, hG, hO⟩ := hrel
    clear hb1 HP
    by_cases hlt : k < n
    · have hk0 : (0 : Int) ≤ (k : Int) := by omega
      have hk1 : (k : Int) < (n : Int) := by omega
      obtain ⟨wo, rfl⟩ : ∃ wo : World, wo = wr := ⟨_, rfl⟩
      go_wp2_with fail
      go_loopw [8, 9] (fun p j wr => ∃ q : Nat, q ≤ n ∧ j = .int .i64 q ∧ p = .int .u8 (wF f k x q : Nat) ∧ Grow wr w.heap.size u6 k (fun a => wF f a x n) ∧ Below w.heap.size w wr) (fun _ j _ => n - (intOf j).toNat)
      case atStart => exact ⟨0, Nat.zero_le _, rfl, rfl, hG, hO⟩
      case round =>
        obtain ⟨q, hq, rfl, rfl, hG2, hO2⟩ := hrel
        clear hG hO
        by_cases hlq : q < n
        · have hq0 : (0 : Int) ≤ (q : Int) := by omega
          have hq1 : (q : Int) < (n : Int) := by omega
          have lp := wF_lt f k x q
          by_cases hqk : q = k
          · have hs : wF f k x (q + 1) = wF f k x q := if_pos hqk
            have hbq : ((q : Int) != (k : Int)) = false := by rw [bne_eq_false_iff_eq]; omega
            have HS : Hid _ := hs
            clear hs hqk
            generalize wF f k x q = p at *
            go_wp2_with fail
            go_roundw
            case rel => exact ⟨q + 1, by omega, by go_num, by rw [HS.out], hG2, hO2⟩
            case measure => simp [intOf]; omega
          · have hbq : ((q : Int) != (k : Int)) = true := by rw [bne_iff_ne]; omega
            obtain ⟨hfq, cb, co, rfl, hcell⟩ := (Bytes.later HB.out hO2) q hlq
            obtain ⟨hfk, cb', co', e, hcell2⟩ := (Bytes.later HB.out hO2) k hlt
            cases e
            have hdf : f k ^^^ f q ≠ 0 := by
              apply xor_ne_zero
              rcases Nat.lt_or_ge q k with h1 | h1
              · exact fun h2 => distB_ne HD.out q k h1 hlt h2.symm
              · exact distB_ne HD.out k q (by omega) hlq
            have l1 : x ^^^ f q < 256 := xor_lt hx hfq
            have l2 : f k ^^^ f q < 256 := xor_lt hfk hfq
            have l3 := divN_lt 1 (f k ^^^ f q)
            have l4 := mulN_lt (x ^^^ f q) (divN 1 (f k ^^^ f q))
            have hs : wF f k x (q + 1) = mulN (wF f k x q) (mulN (x ^^^ f q) (divN 1 (f k ^^^ f q))) := by
              rw [show wF f k x (q + 1) = mulN (wF f k x q) (divN (x ^^^ f q) (f k ^^^ f q)) from if_neg hqk, divN_eq (x ^^^ f q) l1 hdf l2]
            have HS : Hid _ := hs
            have HDF : Hid _ := hdf
            clear hs hqk hdf
            generalize f q = fq at *
            generalize hfk' : f k = fk at hcell2 hfk l2 l3 l4 HS HDF
            clear hfk'
            generalize wF f k x q = p at *
            go_wp2_with fail
            go_quiet (first
              | (go_at_call 45; refine Calls.quiet_w (radd_n _ ?_ ?_ rfl) <;> assumption)
              | (go_at_call 56; refine Calls.quiet_w (rinv_n _ ?_ HDF.out rfl); assumption)
              | (go_at_call 55; refine Calls.quiet_w (rmul_n _ ?_ ?_ rfl) <;> assumption))
            go_wp2_with fail
            go_roundw
            case rel => exact ⟨q + 1, by omega, by go_num, by rw [HS.out], hG2, Below.drewN hO2 _⟩
            case measure => simp [intOf]; omega
        · obtain rfl : q = n := by omega
          obtain ⟨y, hy⟩ : ∃ y, wF f k x q = y := ⟨_, rfl⟩
          have HY : Hid _ := hy
          rw [hy]
          have hs3 := hO2.size
          clear hy
          go_wp2_with (at_builtin; refine wpList_app8 rfl (.tmp 47) (.tmp 49) rfl w.heap.size _ k _ y wr rfl hG2 rfl (by omega) hs3 ?_)
          intro v' w4 hG4 hb4 hs4
          have hG5 := hG4.congr (g := fun a => wF f a x q) (fun i _ => upd_self (F := fun a => wF f a x q) HY.out i)
          have hO4 := hO2.trans hb4
          clear hG4 hG2 hO2 hb4 hs4 hs3
          go_wp2_with fail
          go_roundw
          case rel => exact ⟨k + 1, by omega, by go_num, hG5, hO4⟩
          case measure => simp [intOf]; omega
    · obtain rfl : k = n := by omega
      go_wp2_with fail
      go_ret2
      exact ⟨u6, rfl, hG, hO⟩

theorem xsum_stop {F : Nat → Nat} {q : Nat} : ∀ n, q ≤ n → (∀ i, q ≤ i → i < n → F i = 0) → xsum F n = xsum F q
  | 0, h, _ => by obtain rfl : q = 0 := by omega
                  rfl
  | n + 1, h, h0 => by
    by_cases e : q = n + 1
    · subst e; rfl
    · rw [xsum_succ, xsum_stop n (by omega) fun i h1 h2 => h0 i h1 (by omega), h0 n (by omega) (by omega), Nat.xor_zero]
/-- One of a product's terms. -/
def cT (f g : Nat → Nat) (m k i : Nat) : Nat := if i ≤ k ∧ k - i < m then mulN (f i) (g (k - i)) else 0
theorem cT_lt (f g : Nat → Nat) (m k i : Nat) : cT f g m k i < 256 := by
  unfold cT; split
  · exact mulN_lt _ _
  · decide
theorem conv_cT (f g : Nat → Nat) (n m k : Nat) : convN f g n m k = xsum (cT f g m k) n := rfl

end Go.Proofs.YtgiffaeckhhmpaaDoor
