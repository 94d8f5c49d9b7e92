/- The walk of PolyAlone. -/
import Derived.Test.YtmfmlgohjpmpfaaDoorPoProds
import Derived.Test.YtmfmlgohjpmpfaaDoorPoLag
import Derived.Test.YtmfmlgohjpmpfaaDoorApp
namespace Go.Proofs.YtmfmlgohjpmpfaaDoor
set_option linter.unusedVariables false
set_option linter.unusedSimpArgs false
open Go.RowKit

theorem TabIn.belowB {w w' : World} {b base : Nat} (h : TabIn w b) (hb : Below base w w') (hs : b < base) : TabIn w' b :=
  h.elim (fun t => .inl ⟨Blk.below t.1 hb hs, t.2⟩) (fun t => .inr ⟨Blk.below t.1 hb hs, t.2⟩)
theorem upd_self {F : Nat → Nat} {k y : Nat} (h : F k = y) (i : Nat) : upd F k y i = F i := by
  unfold upd
  split
  · rename_i e; rw [e, h]
  · rfl
theorem places_ne {f : Nat → Nat} {n : Nat} (h : placesB f n = true) : ∀ i j, i < j → j < n → f i ≠ f j := fun i j hij hj => distB_ne (placesB_iff.1 h).1 i j hij hj

set_option maxRecDepth 100000 in
set_option maxHeartbeats 1000000 in
theorem alone_bad (oa ob : Option Addr) (n cp m cq : Nat) (f : Nat → Nat) (x : Int) (w : World) (hg : Handle w) (hb : Bytes w ob n f) (hn : n ≤ maxLen) (hp : placesB f n = false) :
    Calls Tryd.prog 5 #[.slice oa m cp, .slice ob n cq, .int .u8 x] w fun e w' => e = .returned (.bool true) ∧ Below w.heap.size w w' := by
  have HB : Hid _ := hb
  have HN : Hid _ := hn
  have HP : Hid _ := hp
  clear hb hn hp
  go_enter Tryd.func5, Tryd.ntmps5
  go_wp2_with fail
  refine (gfnew_any _).mono ?_
  rintro e w0 ⟨rfl, hT0, hB0⟩
  have hS0 := St.new hg hT0 hB0
  clear hT0 hB0
  go_wp2_with fail
  refine (weights_bad _ ob n cq f x _ ?b1 HN.out HP.out).mono ?_
  case b1 => exact Bytes.later HB.out hS0.bel
  rintro e w1 ⟨rfl, hb1⟩
  have hS1 := hS0.later hb1
  clear hb1 hS0
  go_wp2_with fail
  refine (num_err02 1 _ hS1.handle).mono ?_
  rintro e w2 ⟨rfl, hb2⟩
  have hS2 := hS1.later hb2
  clear hb2 hS1
  go_wp2_with fail
  refine (sure02 _ hS2.handle).mono ?_
  rintro e w3 ⟨rfl, hb3⟩
  go_wp2_with fail
  go_ret
  exact ⟨rfl, (hS2.later hb3).bel⟩

set_option maxRecDepth 100000 in
set_option maxHeartbeats 1000000 in
theorem alone_big (oa ob : Option Addr) (n cp m cq : Nat) (f : Nat → Nat) (x : Nat) (w : World) (hg : Handle w) (hb : Bytes w ob n f) (hn : n ≤ maxLen) (hx : x < 256) (hp : placesB f n = true) (h : n < m ∨ 60 < n) :
    Calls Tryd.prog 5 #[.slice oa m cp, .slice ob n cq, .int .u8 x] w fun e w' => e = .returned (.bool true) ∧ Below w.heap.size w w' := by
  have HB : Hid _ := hb
  have HN : Hid _ := hn
  have HP : Hid _ := hp
  have HBA := Lib.hid hb.apart
  clear hb hn hp
  by_cases h1 : (n : Int) < (m : Int)
  · clear h
    go_enter Tryd.func5, Tryd.ntmps5
    go_wp2_with fail
    refine (gfnew_any _).mono ?_
    rintro e w0 ⟨rfl, hT0, hB0⟩
    have hS0 := St.new hg hT0 hB0
    clear hT0 hB0
    go_wp2_with fail
    refine (weights_any _ ob n cq f x _ ?t1 ?b1 HBA.out HN.out hx HP.out).mono ?_
    case t1 => exact hS0.tab
    case b1 => exact Bytes.later HB.out hS0.bel
    rintro e w1 ⟨g, rfl, hgg, hR, hL⟩
    have hS1 := hS0.left hL
    clear hL hS0 hR hgg
    go_wp2_with fail
    refine (sure02 _ hS1.handle).mono ?_
    rintro e w3 ⟨rfl, hb3⟩
    go_wp2_with fail
    go_ret
    exact ⟨rfl, (hS1.later hb3).bel⟩
  · have h2 : (60 : Int) < (n : Int) := by omega
    have h3 : decide ((n : Int) < (m : Int)) = false := decide_eq_false h1
    have h4 : decide (n < m) = false := decide_eq_false (by omega)
    clear h h1
    go_enter Tryd.func5, Tryd.ntmps5
    go_wp2_with fail
    refine (gfnew_any _).mono ?_
    rintro e w0 ⟨rfl, hT0, hB0⟩
    have hS0 := St.new hg hT0 hB0
    clear hT0 hB0
    go_wp2_with fail
    refine (weights_any _ ob n cq f x _ ?t1 ?b1 HBA.out HN.out hx HP.out).mono ?_
    case t1 => exact hS0.tab
    case b1 => exact Bytes.later HB.out hS0.bel
    rintro e w1 ⟨g, rfl, hgg, hR, hL⟩
    have hS1 := hS0.left hL
    clear hL hS0 hR hgg
    go_wp2_with fail
    refine (sure02 _ hS1.handle).mono ?_
    rintro e w3 ⟨rfl, hb3⟩
    go_wp2_with fail
    go_ret
    exact ⟨rfl, (hS1.later hb3).bel⟩

set_option maxRecDepth 100000 in
set_option maxHeartbeats 4000000 in
theorem alone_small (oa ob : Option Addr) (n cp m cq : Nat) (c f : Nat → Nat) (x : Nat) (w : World) (hg : Handle w) (hc : Bytes w oa m c) (hb : Bytes w ob n f) (hx : x < 256) (hp : placesB f n = true) (hmn : m ≤ n) (hn : n ≤ 60) :
    Calls Tryd.prog 5 #[.slice oa m cp, .slice ob n cq, .int .u8 x] w fun e w' => e = .returned (.bool true) ∧ Below w.heap.size w w' := by
  obtain ⟨ev, hev⟩ : ∃ v, evalN c m x = v := ⟨_, rfl⟩
  have hf : ∀ i, i < n → f i < 256 := fun i hi => (hb i hi).1
  have hone := weights_one hf (places_ne hp) (placesB_iff.1 hp).2.1 hx
  have hlag : intF f (fun i => evalN c m (f i)) x n n = ev := (lagrange hf (places_ne hp) (fun i hi => (hc i hi).1) hmn hx).trans hev
  have HB : Hid _ := hb
  have HC : Hid _ := hc
  have HBA := Lib.hid hb.apart
  have HCA := Lib.hid hc.apart
  have HN : Hid (n ≤ maxLen) := (by unfold maxLen; omega : n ≤ maxLen)
  have HM : Hid (m ≤ maxLen) := (by unfold maxLen; omega : m ≤ maxLen)
  have HP : Hid _ := hp
  have HF : Hid _ := hf
  have HONE : Hid _ := hone
  have HLAG : Hid _ := hlag
  have HEV : Hid _ := hev
  have h60 : (n : Int) ≤ 60 := by omega
  have hmn' : (m : Int) ≤ (n : Int) := by omega
  have g1 : decide (n < m) = false := decide_eq_false (by omega)
  have g2 : decide (60 < (n : Int)) = false := decide_eq_false (by omega)
  clear hb hc hp hf hone hlag hev
  go_enter Tryd.func5, Tryd.ntmps5
  go_wp2_with fail
  refine (gfnew_any _).mono ?_
  rintro e w0 ⟨rfl, hT0, hB0⟩
  have hS0 := St.new hg hT0 hB0
  clear hT0 hB0
  go_wp2_with fail
  refine (weights_any _ ob n cq f x _ ?t1 ?b1 HBA.out HN.out hx HP.out).mono ?_
  case t1 => exact hS0.tab
  case b1 => exact Bytes.later HB.out hS0.bel
  rintro e w1 ⟨g, rfl, hgg, hR, hL⟩
  have hS1 := hS0.left hL
  have hT1 := hS1.tab
  have htl := hT1.lt
  have hgt : g ≠ w.heap.size := by have := hS0.tab.lt; omega
  have hbel1 := Lib.hid hS1.bel
  have hS1' := Lib.hid hS1
  have hgl := hR.lt
  clear hL hS0 hgg hS1
  go_wp2_with fail
  go_loopw [10, 12] (fun v i wr => ∃ k : Nat, k ≤ n ∧ i = .int .i64 k ∧ Grow wr w1.heap.size v k (fun i => evalN c m (f i)) ∧ TabIn wr w.heap.size ∧ Own w.heap.size w1 wr) (fun _ i _ => n - (intOf i).toNat)
  case atStart => exact ⟨0, Nat.zero_le _, rfl, Grow.nil _ _ _, hT1, Own.refl _ _⟩
  case round =>
    obtain ⟨k, hk, rfl, hG, hT, hO⟩ := hrel
    clear hT1
    by_cases hlt : k < n
    · obtain ⟨hfk, cb, co, rfl, hcell⟩ := (Bytes.own (Bytes.later HB.out hbel1.out) hO HBA.out) k hlt
      have hk0 : (0 : Int) ≤ (k : Int) := by omega
      have hk1 : (k : Int) < (n : Int) := by omega
      obtain ⟨y, hy⟩ : ∃ y, evalN c m (f k) = y := ⟨_, rfl⟩
      have HY : Hid _ := hy
      clear hy
      go_wp2_with fail
      refine (eval_is (v := y) _ hT ?b2 HCA.out HM.out hfk HY.out).mono ?_
      case b2 => exact Bytes.own (Bytes.later HC.out hbel1.out) hO HCA.out
      rintro e w3 ⟨rfl, hL3⟩
      have hG3 := hG.own hL3.2 htl
      have hO3 := hO.trans hL3.2
      have hs3 := hO3.size
      have hT3 := hL3.1
      clear hG hT hO hL3
      go_wp2_with (at_builtin; refine wpList_app8 rfl (.tmp 54) (.tmp 62) rfl w1.heap.size _ k _ y w3 rfl hG3 rfl (by omega) hs3 ?_)
      intro v' w4 hG4 hb4 hs4
      have hG5 := hG4.congr (g := fun i => evalN c m (f i)) (fun i _ => upd_self (F := fun i => evalN c m (f i)) HY.out i)
      have hT4 := hT3.belowB hb4 htl
      have hO4 := hO3.then_below hb4 (Nat.le_refl _)
      clear hG4 hG3 hT3 hO3 hb4 hs4 hs3
      go_wp2_with fail
      go_roundw
      case rel => exact ⟨k + 1, by omega, by go_num, hG5, hT4, hO4⟩
      case measure => simp [intOf]; omega
    · obtain rfl : k = n := by omega
      obtain ⟨oy, cy, rfl, hBy, hyb⟩ := hG.bytes fun i _ => evalN_lt _ _ _
      have HBY := Lib.hid hBy
      have HYA : Hid (Apart w.heap.size oy k) := (fun _ a e => by have := hyb a e; omega : Apart w.heap.size oy k)
      have hX : Row wr g k (fun a => wF f a x k) := hR.own hO hgt
      clear hG hBy hyb hR
      go_wp2_with fail
      go_loop [11, 13] (fun s i => ∃ j : Nat, j ≤ k ∧ i = .int .i64 j ∧ s = .int .u8 (xsum (fun i => wF f i x k) j : Nat)) (fun _ i => k - (intOf i).toNat)
      case atStart => exact ⟨0, Nat.zero_le _, rfl, rfl⟩
      case round =>
        obtain ⟨j, hj, rfl, rfl⟩ := hrel
        by_cases hlj : j < k
        · have c1 : wr.cell? ⟨g, j, none⟩ = some (.int .u8 (wF f j x k : Nat)) := hX.cell hlj
          have l1 := wF_lt f j x k
          have l2 : xsum (fun i => wF f i x k) j < 256 := xsum_lt j fun i _ => wF_lt f i x k
          have hs : xsum (fun i => wF f i x k) (j + 1) = xsum (fun i => wF f i x k) j ^^^ wF f j x k := rfl
          have hj0 : (0 : Int) ≤ (j : Int) := by omega
          have hj1 : (j : Int) < (k : Int) := by omega
          have HS : Hid _ := hs
          clear hs
          generalize wF f j x k = v at *
          generalize xsum (fun i => wF f i x k) j = s at *
          go_wp2_with fail
          refine (add_any s v _ l2 l1).mono ?_
          rintro e w' ⟨rfl, rfl⟩
          go_wp2_with fail
          go_round
          case rel => exact ⟨j + 1, by omega, by go_num, by rw [HS.out]⟩
          case measure => simp [intOf]; omega
        · obtain rfl : j = k := by omega
          have h1 : ((xsum (fun i => wF f i x j) j : Nat) : Int) = 1 := by rw [HONE.out]; rfl
          rw [h1]
          clear h1
          go_wp2_with fail
          refine (interp_is (v := ev) _ hT ?b5 HBA.out HBY.out HYA.out HN.out hx HP.out HLAG.out).mono ?_
          case b5 => exact Bytes.own (Bytes.later HB.out hbel1.out) hO HBA.out
          rintro e w5 ⟨rfl, hL5⟩
          have hO5 := hO.trans hL5.2
          go_wp2_with fail
          refine (eval_is (v := ev) _ hL5.1 ?b6 HCA.out HM.out hx HEV.out).mono ?_
          case b6 => exact Bytes.own (Bytes.later HC.out hbel1.out) hO5 HCA.out
          rintro e w6 ⟨rfl, hL6⟩
          have hS6 := hS1'.out.left (⟨hL6.1, hO5.trans hL6.2⟩ : Left w.heap.size w1 w6)
          go_wp2_with fail
          refine (sure02 _ hS6.handle).mono ?_
          rintro e w7 ⟨rfl, hb7⟩
          go_wp2_with fail
          go_ret
          exact ⟨rfl, (hS6.later hb7).bel⟩
theorem alone_any (oa ob : Option Addr) (n cp m cq : Nat) (c f : Nat → Nat) (x : Int) (w : World) (hg : Handle w) (hc : Bytes w oa m c) (hb : Bytes w ob n f) (hn : n ≤ maxLen) (hx : B8 x) :
    Calls Tryd.prog 5 #[.slice oa m cp, .slice ob n cq, .int .u8 x] w fun e w' => e = .returned (.bool true) ∧ Below w.heap.size w w' := by
  obtain ⟨k, hk, rfl⟩ := hx.nat
  rcases hp : placesB f n with _ | _
  · exact alone_bad oa ob n cp m cq f k w hg hb hn hp
  · by_cases h : n < m ∨ 60 < n
    · exact alone_big oa ob n cp m cq f k w hg hb hn hk hp h
    · exact alone_small oa ob n cp m cq c f k w hg hc hb hk hp (by omega) (by omega)
end Go.Proofs.YtmfmlgohjpmpfaaDoor
