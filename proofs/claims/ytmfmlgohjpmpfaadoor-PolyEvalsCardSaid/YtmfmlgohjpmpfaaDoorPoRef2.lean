/- Contracts of the document's own weights, values and products of layer 2. -/
import Derived.Test.YtmfmlgohjpmpfaaDoorPoRef
import Derived.Test.YtmfmlgohjpmpfaaDoorPoAlone
import Derived.IntWalk
namespace Go.Proofs.YtmfmlgohjpmpfaaDoor
set_option linter.unusedVariables false
set_option linter.unusedSimpArgs false
open Go.RowKit

set_option maxRecDepth 100000 in
set_option maxHeartbeats 800000 in
theorem rweights_bad (oa : Option Addr) (n cp : Nat) (f : Nat → Nat) (x : Int) (w : World) (hb : Bytes w oa n f) (hn : n ≤ maxLen) (hp : placesB f n = false) :
    Calls Tryd.prog 21 #[.slice oa n cp, .int .u8 x] w fun e w' => e = .returned (.tuple #[.slice none 0 0, .int .i64 1]) ∧ Below w.heap.size w w' := by
  have HP := Lib.hid (rmay_any oa n cp f false w hb hn hp)
  have hnot : ∀ (x : Bool) (w : World), (Op.unary .not (.bool x)).run Tryd.prog w = .ok (.bool (!x)) w := fun _ _ => rfl
  clear hb hp
  go_enter Tryd.func21, Tryd.ntmps21
  go_wp2_with fail
  refine HP.out.mono ?_
  rintro e w1 ⟨rfl, hb1⟩
  go_wp2_with fail
  go_ret2
  exact ⟨rfl, hb1⟩

/-- What is answered: bytes in new memory, and no error. -/
def NewBytes (w : World) (n : Nat) (F : Nat → Nat) (e : Ending) (w' : World) : Prop := ∃ v, e = .returned (.tuple #[v, .int .i64 0]) ∧ Grow w' w.heap.size v n F ∧ Below w.heap.size w w'

set_option maxRecDepth 100000 in
set_option maxHeartbeats 4000000 in
theorem rweights_any (oa : Option Addr) (n cp : Nat) (f : Nat → Nat) (x : Nat) (w : World) (hb : Bytes w oa n f) (hn : n ≤ maxLen) (hx : x < 256) (hp : placesB f n = true) :
    Calls Tryd.prog 21 #[.slice oa n cp, .int .u8 x] w (NewBytes w n (fun a => wF f a x n)) := by
  have HP := Lib.hid (rmay_any oa n cp f true w hb hn hp)
  have hnot : ∀ (x : Bool) (w : World), (Op.unary .not (.bool x)).run Tryd.prog w = .ok (.bool (!x)) w := fun _ _ => rfl
  obtain ⟨hd, h1n, hn255⟩ := placesB_iff.1 hp
  have hm : (n : Int) ≤ 255 := by omega
  have HD : Hid _ := hd
  have HB : Hid _ := hb
  clear hb hp hd hn
  go_enter Tryd.func21, Tryd.ntmps21
  go_wp2_with fail
  refine HP.out.mono ?_
  rintro e w1 ⟨rfl, hb1⟩
  go_wp2_with fail
  go_loopw [6, 7] (fun v i wr => ∃ k : Nat, k ≤ n ∧ i = .int .i64 k ∧ Grow wr w.heap.size v k (fun a => wF f a x n) ∧ Below w.heap.size w wr) (fun _ i _ => n - (intOf i).toNat)
  case atStart => exact ⟨0, Nat.zero_le _, rfl, Grow.nil _ _ _, hb1⟩
  case round =>
    obtain ⟨k, hk, rfl, hG, hO⟩ := hrel
    clear hb1 HP
    by_cases hlt : k < n
    · have hk0 : (0 : Int) ≤ (k : Int) := by omega
      have hk1 : (k : Int) < (n : Int) := by omega
      obtain ⟨wo, rfl⟩ : ∃ wo : World, wo = wr := ⟨_, rfl⟩
      go_wp2_with fail
      go_loopw [8, 9] (fun p j wr => ∃ q : Nat, q ≤ n ∧ j = .int .i64 q ∧ p = .int .u8 (wF f k x q : Nat) ∧ Grow wr w.heap.size u6 k (fun a => wF f a x n) ∧ Below w.heap.size w wr) (fun _ j _ => n - (intOf j).toNat)
      case atStart => exact ⟨0, Nat.zero_le _, rfl, rfl, hG, hO⟩
      case round =>
        obtain ⟨q, hq, rfl, rfl, hG2, hO2⟩ := hrel
        clear hG hO
        by_cases hlq : q < n
        · have hq0 : (0 : Int) ≤ (q : Int) := by omega
          have hq1 : (q : Int) < (n : Int) := by omega
          have lp := wF_lt f k x q
          by_cases hqk : q = k
          · have hs : wF f k x (q + 1) = wF f k x q := if_pos hqk
            have hbq : ((q : Int) != (k : Int)) = false := by rw [bne_eq_false_iff_eq]; omega
            have HS : Hid _ := hs
            clear hs hqk
            generalize wF f k x q = p at *
            go_wp2_with fail
            go_roundw
            case rel => exact ⟨q + 1, by omega, by go_num, by rw [HS.out], hG2, hO2⟩
            case measure => simp [intOf]; omega
          · have hbq : ((q : Int) != (k : Int)) = true := by rw [bne_iff_ne]; omega
            obtain ⟨hfq, cb, co, rfl, hcell⟩ := (Bytes.later HB.out hO2) q hlq
            obtain ⟨hfk, cb', co', e, hcell2⟩ := (Bytes.later HB.out hO2) k hlt
            cases e
            have hdf : f k ^^^ f q ≠ 0 := by
              apply xor_ne_zero
              rcases Nat.lt_or_ge q k with h1 | h1
              · exact fun h2 => distB_ne HD.out q k h1 hlt h2.symm
              · exact distB_ne HD.out k q (by omega) hlq
            have l1 : x ^^^ f q < 256 := xor_lt hx hfq
            have l2 : f k ^^^ f q < 256 := xor_lt hfk hfq
            have l3 := divN_lt 1 (f k ^^^ f q)
            have l4 := mulN_lt (x ^^^ f q) (divN 1 (f k ^^^ f q))
            have hs : wF f k x (q + 1) = mulN (wF f k x q) (mulN (x ^^^ f q) (divN 1 (f k ^^^ f q))) := by
              rw [show wF f k x (q + 1) = mulN (wF f k x q) (divN (x ^^^ f q) (f k ^^^ f q)) from if_neg hqk, divN_eq (x ^^^ f q) l1 hdf l2]
            have HS : Hid _ := hs
            have HDF : Hid _ := hdf
            clear hs hqk hdf
            generalize f q = fq at *
            generalize hfk' : f k = fk at hcell2 hfk l2 l3 l4 HS HDF
            clear hfk'
            generalize wF f k x q = p at *
            go_wp2_with fail
            go_quiet (first
              | (go_at_call 54; refine Calls.quiet_w (radd_n _ ?_ ?_ rfl) <;> assumption)
              | (go_at_call 59; refine Calls.quiet_w (rinv_n _ ?_ HDF.out rfl); assumption)
              | (go_at_call 55; refine Calls.quiet_w (rmul_n _ ?_ ?_ rfl) <;> assumption))
            go_wp2_with fail
            go_roundw
            case rel => exact ⟨q + 1, by omega, by go_num, by rw [HS.out], hG2, Below.drewN hO2 _⟩
            case measure => simp [intOf]; omega
        · obtain rfl : q = n := by omega
          obtain ⟨y, hy⟩ : ∃ y, wF f k x q = y := ⟨_, rfl⟩
          have HY : Hid _ := hy
          rw [hy]
          have hs3 := hO2.size
          clear hy
          go_wp2_with (at_builtin; refine wpList_app8 rfl (.tmp 47) (.tmp 49) rfl w.heap.size _ k _ y wr rfl hG2 rfl (by omega) hs3 ?_)
          intro v' w4 hG4 hb4 hs4
          have hG5 := hG4.congr (g := fun a => wF f a x q) (fun i _ => upd_self (F := fun a => wF f a x q) HY.out i)
          have hO4 := hO2.trans hb4
          clear hG4 hG2 hO2 hb4 hs4 hs3
          go_wp2_with fail
          go_roundw
          case rel => exact ⟨k + 1, by omega, by go_num, hG5, hO4⟩
          case measure => simp [intOf]; omega
    · obtain rfl : k = n := by omega
      go_wp2_with fail
      go_ret2
      exact ⟨u6, rfl, hG, hO⟩

set_option maxRecDepth 100000 in
set_option maxHeartbeats 800000 in
theorem rinterp_bad (oa ob : Option Addr) (n cp m cq : Nat) (f : Nat → Nat) (x : Int) (w : World) (hb : Bytes w oa n f) (hn : n ≤ maxLen) (hp : placesB f n = false) :
    Calls Tryd.prog 23 #[.slice oa n cp, .slice ob m cq, .int .u8 x] w fun e w' => e = .returned (.tuple #[.int .u8 0, .int .i64 1]) ∧ Below w.heap.size w w' := by
  have HP := Lib.hid (rweights_bad oa n cp f x w hb hn hp)
  clear hb hp
  go_enter Tryd.func23, Tryd.ntmps23
  go_wp2_with fail
  refine HP.out.mono ?_
  rintro e w1 ⟨rfl, hb1⟩
  go_wp2_with fail
  go_ret2
  exact ⟨rfl, hb1⟩
set_option maxRecDepth 100000 in
set_option maxHeartbeats 800000 in
theorem rinterp_len (oa ob : Option Addr) (n cp m cq : Nat) (f : Nat → Nat) (x : Nat) (w : World) (hb : Bytes w oa n f) (hn : n ≤ maxLen) (hx : x < 256) (hp : placesB f n = true) (hne : m ≠ n) :
    Calls Tryd.prog 23 #[.slice oa n cp, .slice ob m cq, .int .u8 x] w fun e w' => e = .returned (.tuple #[.int .u8 0, .int .i64 1]) ∧ Below w.heap.size w w' := by
  have HP := Lib.hid (rweights_any oa n cp f x w hb hn hx hp)
  have hmn : ((m : Int) != (n : Int)) = true := by rw [bne_iff_ne]; omega
  clear hb hp hne
  go_enter Tryd.func23, Tryd.ntmps23
  go_wp2_with fail
  refine HP.out.mono ?_
  rintro e w1 ⟨v, rfl, hG, hb1⟩
  clear HP
  go_wp2_with fail
  go_ret2
  exact ⟨rfl, hb1⟩
set_option maxRecDepth 100000 in
set_option maxHeartbeats 2000000 in
theorem rinterp_any (oa ob : Option Addr) (n cp cq : Nat) (f y : Nat → Nat) (x v : Nat) (w : World) (hb : Bytes w oa n f) (hy : Bytes w ob n y) (hn : n ≤ maxLen) (hx : x < 256) (hp : placesB f n = true) (hv : intF f y x n n = v) :
    Calls Tryd.prog 23 #[.slice oa n cp, .slice ob n cq, .int .u8 x] w fun e w' => e = .returned (.tuple #[.int .u8 v, .int .i64 0]) ∧ Below w.heap.size w w' := by
  have HP := Lib.hid (rweights_any oa n cp f x w hb hn hx hp)
  have hm : (n : Int) ≤ 255 := by have := (placesB_iff.1 hp).2.2; omega
  have HY : Hid _ := hy
  have HV : Hid _ := hv
  clear hb hp hy hv hn
  go_enter Tryd.func23, Tryd.ntmps23
  go_wp2_with fail
  refine HP.out.mono ?_
  rintro e w1 ⟨vv, rfl, hG, hb1⟩
  obtain ⟨og, cg, rfl, hBg, _⟩ := hG.bytes fun i _ => wF_lt _ _ _ _
  have HG : Hid _ := hBg
  clear HP hG hBg
  go_wp2_with fail
  go_loopw [10, 11] (fun s i wr => ∃ k : Nat, k ≤ n ∧ i = .int .i64 k ∧ s = .int .u8 (intF f y x n k : Nat) ∧ Below w1.heap.size w1 wr) (fun _ i _ => n - (intOf i).toNat)
  case atStart => exact ⟨0, Nat.zero_le _, rfl, rfl, Below.refl _ _⟩
  case round =>
    obtain ⟨k, hk, rfl, rfl, hO⟩ := hrel
    by_cases hlt : k < n
    · obtain ⟨hyk, cb, co, rfl, hcell⟩ := (Bytes.later (Bytes.later HY.out hb1) hO) k hlt
      obtain ⟨hgk, gb, go, rfl, hcellg⟩ := (Bytes.later HG.out hO) k hlt
      change wF f k x n < 256 at hgk
      change wr.cell? ⟨gb, go + k, none⟩ = some (.int .u8 (wF f k x n : Nat)) at hcellg
      have hk0 : (0 : Int) ≤ (k : Int) := by omega
      have hk1 : (k : Int) < (n : Int) := by omega
      have hs0 := intF_lt f y x n k
      have hs : intF f y x n (k + 1) = intF f y x n k ^^^ mulN (wF f k x n) (y k) := by rw [mulN_comm]; rfl
      have hml := mulN_lt (wF f k x n) (y k)
      have HS : Hid _ := hs
      clear hs
      generalize wF f k x n = v at *
      generalize y k = yk at *
      generalize intF f y x n k = s at *
      go_wp2_with fail
      go_quiet (first
        | (go_at_call 54; refine Calls.quiet_w (radd_n _ ?_ ?_ rfl) <;> assumption)
        | (go_at_call 55; refine Calls.quiet_w (rmul_n _ ?_ ?_ rfl) <;> assumption))
      go_wp2_with fail
      go_roundw
      case rel => exact ⟨k + 1, by omega, by go_num, by rw [HS.out], Below.drewN hO _⟩
      case measure => simp [intOf]; omega
    · obtain rfl : k = n := by omega
      rw [HV.out]
      go_wp2_with fail
      go_ret2
      exact ⟨rfl, hb1.trans (hO.mono hb1.size)⟩

theorem xsum_stop {F : Nat → Nat} {q : Nat} : ∀ n, q ≤ n → (∀ i, q ≤ i → i < n → F i = 0) → xsum F n = xsum F q
  | 0, h, _ => by obtain rfl : q = 0 := by omega
                  rfl
  | n + 1, h, h0 => by
    by_cases e : q = n + 1
    · subst e; rfl
    · rw [xsum_succ, xsum_stop n (by omega) fun i h1 h2 => h0 i h1 (by omega), h0 n (by omega) (by omega), Nat.xor_zero]
/-- One of a product's terms. -/
def cT (f g : Nat → Nat) (m k i : Nat) : Nat := if i ≤ k ∧ k - i < m then mulN (f i) (g (k - i)) else 0
theorem cT_lt (f g : Nat → Nat) (m k i : Nat) : cT f g m k i < 256 := by
  unfold cT; split
  · exact mulN_lt _ _
  · decide
theorem conv_cT (f g : Nat → Nat) (n m k : Nat) : convN f g n m k = xsum (cT f g m k) n := rfl

set_option maxRecDepth 100000 in
set_option maxHeartbeats 4000000 in
theorem rpmul_any (oa ob : Option Addr) (n cp m cq : Nat) (f g : Nat → Nat) (w : World) (hb : Bytes w oa n f) (hy : Bytes w ob m g) (hn : n ≤ 1000000) (hm : m ≤ 1000000) :
    Calls Tryd.prog 19 #[.slice oa n cp, .slice ob m cq] w fun e w' => ∃ v, e = .returned v ∧ Grow w' w.heap.size v (pl n m) (convN f g n m) ∧ Below w.heap.size w w' := by
  have HB : Hid _ := hb
  have HY : Hid _ := hy
  clear hb hy
  have hpl : pl n m = if n = 0 ∨ m = 0 then 0 else n + m - 1 := rfl
  obtain ⟨P, hP⟩ : ∃ P, pl n m = P := ⟨_, rfl⟩
  have hP1 : P = 0 → n = 0 ∨ m = 0 := fun h => by
    rw [hP] at hpl; split at hpl
    · assumption
    · omega
  have hP2 : 0 < P → 0 < n ∧ 0 < m ∧ P = n + m - 1 := fun h => by
    rw [hP] at hpl; split at hpl
    · omega
    · omega
  have hP3 : P ≤ 2000000 := hP ▸ pl_le hn hm
  rw [hP]
  have HP1 : Hid _ := hP1
  have HP2 : Hid _ := hP2
  clear hpl hP hP1 hP2
  go_enter Tryd.func19, Tryd.ntmps19
  go_wp2_with fail
  go_loopw [5, 6] (fun v i wr => ∃ k : Nat, k ≤ P ∧ i = .int .i64 k ∧ Grow wr w.heap.size v k (convN f g n m) ∧ Below w.heap.size w wr) (fun _ i _ => P - (intOf i).toNat)
  case atStart => exact ⟨0, Nat.zero_le _, rfl, Grow.nil _ _ _, Below.refl _ _⟩
  case round =>
    obtain ⟨k, hk, rfl, hG, hO⟩ := hrel
    by_cases hlt : k < P
    · obtain ⟨hn0, hm0, hPe⟩ := HP2.out (by omega)
      have i1 : (k : Int) < (n : Int) + (m : Int) - 1 := by omega
      have i2 : (0 : Int) < (n : Int) := by omega
      have i3 : (0 : Int) < (m : Int) := by omega
      have i4 : (0 : Int) ≤ (k : Int) := by omega
      obtain ⟨wo, rfl⟩ : ∃ wo : World, wo = wr := ⟨_, rfl⟩
      go_wp2_with fail
      go_loopw [7, 8] (fun s j wr => ∃ q : Nat, q ≤ n ∧ q ≤ k + 1 ∧ j = .int .i64 q ∧ s = .int .u8 (xsum (cT f g m k) q : Nat) ∧ Grow wr w.heap.size u5 k (convN f g n m) ∧ Below w.heap.size w wr) (fun _ j _ => n - (intOf j).toNat)
      case atStart => exact ⟨0, Nat.zero_le _, Nat.zero_le _, rfl, rfl, hG, hO⟩
      case round =>
        obtain ⟨q, hq, hqk, rfl, rfl, hG2, hO2⟩ := hrel
        clear hG hO
        have hs0 : xsum (cT f g m k) q < 256 := xsum_lt q fun i _ => cT_lt f g m k i
        have hs : xsum (cT f g m k) (q + 1) = xsum (cT f g m k) q ^^^ cT f g m k q := rfl
        by_cases hlq : q < n ∧ q ≤ k
        · obtain ⟨hq1, hq2⟩ := hlq
          have j1 : (q : Int) ≤ (k : Int) := by omega
          have j2 : (q : Int) < (n : Int) := by omega
          have j3 : (0 : Int) ≤ (q : Int) := by omega
          obtain ⟨d, hd⟩ : ∃ d : Nat, k - q = d := ⟨_, rfl⟩
          have hsub : (k : Int) - (q : Int) = (d : Int) := by omega
          by_cases hdm : d < m
          · have hc : cT f g m k q = mulN (f q) (g d) := by unfold cT; rw [if_pos ⟨hq2, by omega⟩, hd]
            obtain ⟨hfq, cb, co, e1, hcell⟩ := (Bytes.later HB.out hO2) q hq1
            obtain ⟨hgd, db, do_, e2, hcell2⟩ := (Bytes.later HY.out hO2) d hdm
            subst e1 e2
            have j4 : (d : Int) < (m : Int) := by omega
            have j5 : (0 : Int) ≤ (d : Int) := by omega
            have hml := mulN_lt (f q) (g d)
            rw [hc] at hs
            have HS : Hid _ := hs
            have HSUB : IntKind.i64.wrap ((k : Int) - (q : Int)) = (d : Int) := by rw [hsub]; exact IntWalk.i64_in _ (by omega)
            clear hs hc hd hPe
            generalize f q = fq at *
            generalize g d = gd at *
            generalize xsum (cT f g m k) q = s at *
            go_wp2_with fail
            go_quiet (first
              | (go_at_call 54; refine Calls.quiet_w (radd_n _ ?_ ?_ rfl) <;> assumption)
              | (go_at_call 55; refine Calls.quiet_w (rmul_n _ ?_ ?_ rfl) <;> assumption))
            go_wp2_with fail
            go_roundw
            case rel => exact ⟨q + 1, by omega, by omega, by go_num, by rw [HS.out], hG2, Below.drewN hO2 _⟩
            case measure => simp [intOf]; omega
          · have hc : cT f g m k q = 0 := by unfold cT; rw [if_neg (by omega)]
            rw [hc, Nat.xor_zero] at hs
            have HS : Hid _ := hs
            have j4 : (m : Int) ≤ (d : Int) := by omega
            clear hs hc hd hPe
            generalize xsum (cT f g m k) q = s at *
            go_wp2_with fail
            go_roundw
            case rel => exact ⟨q + 1, by omega, by omega, by go_num, by rw [HS.out], hG2, hO2⟩
            case measure => simp [intOf]; omega
        · have hfin : xsum (cT f g m k) q = convN f g n m k := by
            rw [conv_cT]
            exact (xsum_stop n hq fun i h1 h2 => by unfold cT; rw [if_neg (by omega)]).symm
          rw [hfin]
          obtain ⟨y, hy⟩ : ∃ y, convN f g n m k = y := ⟨_, rfl⟩
          have HYY : Hid _ := hy
          rw [hy]
          have hs3 := hO2.size
          clear hy hfin hs hs0
          by_cases hq3 : q ≤ k
          · have j2 : ¬ ((q : Int) < (n : Int)) := by omega
            have j1 : (q : Int) ≤ (k : Int) := by omega
            clear hlq
            go_wp2_with (at_builtin; refine wpList_app8 rfl (.tmp 59) (.tmp 61) rfl w.heap.size _ k _ y wr rfl hG2 rfl (by omega) hs3 ?_)
            intro v' w4 hG4 hb4 hs4
            have hG5 := hG4.congr (g := convN f g n m) (fun i _ => upd_self (F := convN f g n m) HYY.out i)
            have hO4 := hO2.trans hb4
            clear hG4 hG2 hO2 hb4 hs4 hs3
            go_wp2_with fail
            go_roundw
            case rel => exact ⟨k + 1, by omega, by go_num, hG5, hO4⟩
            case measure => simp [intOf]; omega
          · have j1 : ¬ ((q : Int) ≤ (k : Int)) := by omega
            clear hlq
            go_wp2_with (at_builtin; refine wpList_app8 rfl (.tmp 59) (.tmp 61) rfl w.heap.size _ k _ y wr rfl hG2 rfl (by omega) hs3 ?_)
            intro v' w4 hG4 hb4 hs4
            have hG5 := hG4.congr (g := convN f g n m) (fun i _ => upd_self (F := convN f g n m) HYY.out i)
            have hO4 := hO2.trans hb4
            clear hG4 hG2 hO2 hb4 hs4 hs3
            go_wp2_with fail
            go_roundw
            case rel => exact ⟨k + 1, by omega, by go_num, hG5, hO4⟩
            case measure => simp [intOf]; omega
    · obtain rfl : k = P := by omega
      by_cases h0 : k = 0
      · subst h0
        rcases HP1.out rfl with h | h
        · subst h
          by_cases hm1 : m ≤ 1
          · have i1 : ¬ ((0 : Int) < (m : Int) - 1) := by omega
            go_wp2_with fail
            go_ret
            exact ⟨_, rfl, hG, hO⟩
          · have i1 : (0 : Int) < (m : Int) - 1 := by omega
            go_wp2_with fail
            go_ret
            exact ⟨_, rfl, hG, hO⟩
        · subst h
          by_cases hn1 : n ≤ 1
          · have i1 : ¬ ((0 : Int) < (n : Int) - 1) := by omega
            go_wp2_with fail
            go_ret
            exact ⟨_, rfl, hG, hO⟩
          · have i1 : (0 : Int) < (n : Int) - 1 := by omega
            have i2 : (0 : Int) < (n : Int) := by omega
            go_wp2_with fail
            go_ret
            exact ⟨_, rfl, hG, hO⟩
      · obtain ⟨hn0, hm0, hPe⟩ := HP2.out (by omega)
        have i1 : ¬ ((k : Int) < (n : Int) + (m : Int) - 1) := by omega
        clear hPe
        go_wp2_with fail
        go_ret
        exact ⟨_, rfl, hG, hO⟩
end Go.Proofs.YtmfmlgohjpmpfaaDoor
