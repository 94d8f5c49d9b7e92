/- The walks of PolyEvals and PolyPlaces. -/
import Derived.Test.YtmfmlgohjpmpfaaDoorPoRef2
namespace Go.Proofs.YtmfmlgohjpmpfaaDoor
set_option linter.unusedVariables false
set_option linter.unusedSimpArgs false
open Go.RowKit

/-- A value that is told as a string, whatever the table's block becomes. -/
def Cv (w0 : World) (v : Value) (s : ByteArray) (w : World) : Prop :=
  (∃ op N cap F, v = .slice op (N : Nat) (cap : Nat) ∧ Told w op N cap F ∧ Apart w0.heap.size op N ∧ strF N F = s) ∨ (∃ base N F, w0.heap.size < base ∧ Grow w base v N F ∧ strF N F = s)
theorem Cv.conv {w0 w : World} {v : Value} {s : ByteArray} (h : Cv w0 v s w) : (convert 22 9 v).run Tryd.prog w = .ok (.string s) w := by
  rcases h with ⟨op, N, cap, F, rfl, hT, _, hs⟩ | ⟨base, N, F, _, hG, hs⟩
  · rw [← hs]; exact hT.conv
  · rw [← hs]; exact hG.conv
theorem Cv.left {w0 w w' : World} {v : Value} {s : ByteArray} (h : Cv w0 v s w) (hl : Left w0.heap.size w w') : Cv w0 v s w' := by
  rcases h with ⟨op, N, cap, F, rfl, hT, ha, hs⟩ | ⟨base, N, F, hb, hG, hs⟩
  · exact .inl ⟨op, N, cap, F, rfl, hT.own hl.2 ha, ha, hs⟩
  · exact .inr ⟨base, N, F, hb, hG.own hl.2 hb, hs⟩
theorem Cv.later {w0 w w' : World} {v : Value} {s : ByteArray} (h : Cv w0 v s w) (hb : Below w.heap.size w w') : Cv w0 v s w' := by
  rcases h with ⟨op, N, cap, F, rfl, hT, ha, hs⟩ | ⟨base, N, F, hB, hG, hs⟩
  · exact .inl ⟨op, N, cap, F, rfl, ⟨Bytes.later hT.1 hb, hT.2⟩, ha, hs⟩
  · exact .inr ⟨base, N, F, hB, hG.later hb, hs⟩

set_option maxHeartbeats 400000 in
theorem eval_nil0 (oa : Option Addr) (n cp : Nat) (x : Int) (w : World) :
    Calls Tryd.prog 16 #[.pointer none, .slice oa n cp, .int .u8 x] w fun e w' => e = .returned (.int .u8 0) ∧ w = w' := by
  go_enter Tryd.func16, Tryd.ntmps16
  go_wp2_with fail
  go_ret
  exact ⟨rfl, rfl⟩
set_option maxHeartbeats 400000 in
theorem pmul_nil0 (oa ob : Option Addr) (n cp m cq : Nat) (w : World) :
    Calls Tryd.prog 18 #[.pointer none, .slice oa n cp, .slice ob m cq] w fun e w' => e = .returned (.slice none 0 0) ∧ w = w' := by
  go_enter Tryd.func18, Tryd.ntmps18
  go_wp2_with fail
  go_ret
  exact ⟨rfl, rfl⟩
theorem eval_s {w0 : World} {n cp v : Nat} {oa : Option Addr} {f : Nat → Nat} {x : Nat} (w : World) (hS : St w0 w)
    (hb : Bytes w oa n f) (ha : Apart w0.heap.size oa n) (hn : n ≤ maxLen) (hx : x < 256) (hv : evalN f n x = v) :
    Calls Tryd.prog 16 #[.pointer (some ⟨w0.heap.size, 0, none⟩), .slice oa n cp, .int .u8 x] w fun e w' => e = .returned (.int .u8 (v : Nat)) ∧ St w0 w' :=
  (eval_is w hS.tab hb ha hn hx hv).mono fun e w' ⟨he, hl⟩ => ⟨he, hS.left hl⟩
theorem pmul_c {w0 : World} {n cp m cq : Nat} {oa ob : Option Addr} {f g : Nat → Nat} {s : ByteArray} (w : World) (hS : St w0 w)
    (hb : Bytes w oa n f) (ha : Apart w0.heap.size oa n) (hy : Bytes w ob m g) (hya : Apart w0.heap.size ob m) (hnl : n ≤ 1000000) (hml : m ≤ 1000000) (hs : strF (pl n m) (convN f g n m) = s) :
    Calls Tryd.prog 18 #[.pointer (some ⟨w0.heap.size, 0, none⟩), .slice oa n cp, .slice ob m cq] w fun e w' => ∃ v, e = .returned v ∧ St w0 w' ∧ Cv w0 v s w' ∧ (convert 22 9 v).run Tryd.prog w' = .ok (.string s) w' :=
  (pmul_u w hS.tab hb ha hy hya hnl hml).mono fun e w' ⟨oq, cap2, he, hq, hqa, hl⟩ =>
    have hc : Cv w0 (.slice oq (pl n m : Nat) (cap2 : Nat)) s w' := .inl ⟨oq, _, _, _, rfl, hq, hqa, hs⟩
    ⟨_, he, hS.left hl, hc, hc.conv⟩
theorem pmul_c2 {w0 : World} {n cp m cq : Nat} {oa ob : Option Addr} {f g : Nat → Nat} {s : ByteArray} {u : Value} (w : World) (hS : St w0 w) (hu : Cv w0 u s w)
    (hb : Bytes w oa n f) (ha : Apart w0.heap.size oa n) (hy : Bytes w ob m g) (hya : Apart w0.heap.size ob m) (hnl : n ≤ 1000000) (hml : m ≤ 1000000) (hs : strF (pl n m) (convN f g n m) = s) :
    Calls Tryd.prog 18 #[.pointer (some ⟨w0.heap.size, 0, none⟩), .slice oa n cp, .slice ob m cq] w fun e w' => ∃ v, e = .returned v ∧ St w0 w' ∧ (convert 22 9 v).run Tryd.prog w' = .ok (.string s) w' ∧ (convert 22 9 u).run Tryd.prog w' = .ok (.string s) w' :=
  (pmul_u w hS.tab hb ha hy hya hnl hml).mono fun e w' ⟨oq, cap2, he, hq, hqa, hl⟩ =>
    have hc : Cv w0 (.slice oq (pl n m : Nat) (cap2 : Nat)) s w' := .inl ⟨oq, _, _, _, rfl, hq, hqa, hs⟩
    ⟨_, he, hS.left hl, hc.conv, (hu.left hl).conv⟩
theorem rpmul_c {w0 : World} {n cp m cq : Nat} {oa ob : Option Addr} {f g : Nat → Nat} {s : ByteArray} (w : World) (hS : St w0 w)
    (hb : Bytes w oa n f) (hy : Bytes w ob m g) (hnl : n ≤ 1000000) (hml : m ≤ 1000000) (hs : strF (pl n m) (convN f g n m) = s) :
    Calls Tryd.prog 19 #[.slice oa n cp, .slice ob m cq] w fun e w' => ∃ v, e = .returned v ∧ St w0 w' ∧ Cv w0 v s w' ∧ (convert 22 9 v).run Tryd.prog w' = .ok (.string s) w' :=
  (rpmul_any oa ob n cp m cq f g w hb hy hnl hml).mono fun e w' ⟨v, he, hG, hb'⟩ =>
    have hc : Cv w0 v s w' := .inr ⟨_, _, _, hS.tab.lt, hG, hs⟩
    ⟨v, he, hS.later hb', hc, hc.conv⟩
theorem rpmul_c2 {w0 : World} {n cp m cq : Nat} {oa ob : Option Addr} {f g : Nat → Nat} {s : ByteArray} {u : Value} (w : World) (hS : St w0 w) (hu : Cv w0 u s w)
    (hb : Bytes w oa n f) (hy : Bytes w ob m g) (hnl : n ≤ 1000000) (hml : m ≤ 1000000) (hs : strF (pl n m) (convN f g n m) = s) :
    Calls Tryd.prog 19 #[.slice oa n cp, .slice ob m cq] w fun e w' => ∃ v, e = .returned v ∧ St w0 w' ∧ (convert 22 9 v).run Tryd.prog w' = .ok (.string s) w' ∧ (convert 22 9 u).run Tryd.prog w' = .ok (.string s) w' :=
  (rpmul_any oa ob n cp m cq f g w hb hy hnl hml).mono fun e w' ⟨v, he, hG, hb'⟩ =>
    have hc : Cv w0 v s w' := .inr ⟨_, _, _, hS.tab.lt, hG, hs⟩
    ⟨v, he, hS.later hb', hc.conv, (hu.later hb').conv⟩

set_option maxRecDepth 100000 in
set_option maxHeartbeats 4000000 in
theorem evals_small (oa ob : Option Addr) (n cp m cq : Nat) (f g : Nat → Nat) (x : Nat) (w : World) (hg : Handle w) (hb : Bytes w oa n f) (hy : Bytes w ob m g)
    (hx : x < 256) (hn : n ≤ 200) (hm : m ≤ 60) :
    Calls Tryd.prog 3 #[.slice oa n cp, .slice ob m cq, .int .u8 x] w fun e w' => e = .returned (.bool true) ∧ Below w.heap.size w w' := by
  obtain ⟨ec, hec⟩ : ∃ v, evalN f n x = v := ⟨_, rfl⟩
  obtain ⟨s, hs⟩ : ∃ s, strF (pl n m) (convN f g n m) = s := ⟨_, rfl⟩
  have HB : Hid _ := hb
  have HA : Hid _ := hb.apart
  have HY : Hid _ := hy
  have HYA : Hid _ := hy.apart
  have HEC : Hid _ := hec
  have Hs : Hid _ := hs
  have HN : Hid (n ≤ maxLen) := (by unfold maxLen; omega : n ≤ maxLen)
  have HN6 : Hid (n ≤ 1000000) := (by omega : n ≤ 1000000)
  have HM6 : Hid (m ≤ 1000000) := (by omega : m ≤ 1000000)
  clear hb hy hec hs
  go_enter Tryd.func3, Tryd.ntmps3
  go_wp2_with fail
  refine (gfnew_any _).mono ?_
  rintro e w0 ⟨rfl, hT0, hB0⟩
  have hS0 := St.new hg hT0 hB0
  have hS1 := hS0.drew
  clear hT0 hB0 hS0
  go_wp2_with fail
  go_region_with
    (first
      | (have q := hS4; clear q; go_at_call 16; refine (eval_nil0 _ _ _ _ _).mono ?_; rintro e w5 ⟨rfl, rfl⟩)
      | (have q := hS4; clear q; go_at_call 18; refine (pmul_nil0 _ _ _ _ _ _ _).mono ?_; rintro e w5 ⟨rfl, rfl⟩)
      | (have q := hS4; clear q; go_at_call 14; refine (sure02 _ ?_).mono ?_; exact hS4.handle; rintro e w7 ⟨rfl, hb7⟩)
      | (have q := hS3; clear q; go_at_call 18; refine (pmul_c2 (u := v3) (f := f) (g := g) _ ?_ ?_ ?_ HA.out ?_ HYA.out HN6.out HM6.out Hs.out).mono ?_; exact hS3; exact hC3; exact Bytes.later HB.out hS3.bel; exact Bytes.later HY.out hS3.bel; rintro e w4 ⟨v4, rfl, hS4, hv4, hu4⟩)
      | (have q := hS3; clear q; go_at_call 19; refine (rpmul_c2 (w0 := w) (u := v3) (f := f) (g := g) _ ?_ ?_ ?_ ?_ HN6.out HM6.out Hs.out).mono ?_; exact hS3; exact hC3; exact Bytes.later HB.out hS3.bel; exact Bytes.later HY.out hS3.bel; rintro e w4 ⟨v4, rfl, hS4, hv4, hu4⟩)
      | (have q := hS2; clear q; go_at_call 18; refine (pmul_c (f := f) (g := g) _ ?_ ?_ HA.out ?_ HYA.out HN6.out HM6.out Hs.out).mono ?_; exact hS2; exact Bytes.later HB.out hS2.bel; exact Bytes.later HY.out hS2.bel; rintro e w3 ⟨v3, rfl, hS3, hC3, hv3⟩)
      | (have q := hS2; clear q; go_at_call 19; refine (rpmul_c (w0 := w) (f := f) (g := g) _ ?_ ?_ ?_ HN6.out HM6.out Hs.out).mono ?_; exact hS2; exact Bytes.later HB.out hS2.bel; exact Bytes.later HY.out hS2.bel; rintro e w3 ⟨v3, rfl, hS3, hC3, hv3⟩)
      | (go_at_call 16; refine (eval_s (f := f) (v := ec) _ ?_ ?_ HA.out HN.out hx HEC.out).mono ?_; exact hS1; exact Bytes.later HB.out hS1.bel; rintro e w2 ⟨rfl, hS2⟩)
      | (go_at_call 17; refine (reval_any _ n cp f x ec _ ?_ HN.out hx HEC.out).mono ?_; (first | exact Bytes.later HB.out hS2.bel | exact Bytes.later HB.out hS1.bel); rintro e w' ⟨rfl, rfl⟩))
  all_goals
    go_wp2_with fail
    go_ret
    exact ⟨rfl, (hS4.later hb7).bel⟩

set_option maxRecDepth 100000 in
set_option maxHeartbeats 400000 in
theorem evals_big (oa ob : Option Addr) (n cp m cq : Nat) (x : Int) (w : World) (hg : Handle w) (h : ¬ (n ≤ 200 ∧ m ≤ 60)) :
    Calls Tryd.prog 3 #[.slice oa n cp, .slice ob m cq, .int .u8 x] w fun e w' => e = .returned (.bool true) ∧ Below w.heap.size w w' := by
  have HS := Lib.hid (sure02 w hg)
  by_cases h1 : n ≤ 200
  · have h2 : ¬ m ≤ 60 := fun hm => h ⟨h1, hm⟩
    go_enter Tryd.func3, Tryd.ntmps3
    go_wp2_with fail
    refine HS.out.mono ?_
    rintro e w1 ⟨rfl, hb⟩
    go_wp2_with fail
    go_ret
    exact ⟨rfl, hb⟩
  · go_enter Tryd.func3, Tryd.ntmps3
    go_wp2_with fail
    refine HS.out.mono ?_
    rintro e w1 ⟨rfl, hb⟩
    go_wp2_with fail
    go_ret
    exact ⟨rfl, hb⟩
theorem evals_any (oa ob : Option Addr) (n cp m cq : Nat) (f g : Nat → Nat) (x : Int) (w : World) (hg : Handle w) (hb : Bytes w oa n f) (hy : Bytes w ob m g) (hx : B8 x) :
    Calls Tryd.prog 3 #[.slice oa n cp, .slice ob m cq, .int .u8 x] w fun e w' => e = .returned (.bool true) ∧ Below w.heap.size w w' := by
  by_cases h : n ≤ 200 ∧ m ≤ 60
  · obtain ⟨k, hk, rfl⟩ := hx.nat
    exact evals_small oa ob n cp m cq f g k w hg hb hy hk h.1 h.2
  · exact evals_big oa ob n cp m cq x w hg h
end Go.Proofs.YtmfmlgohjpmpfaaDoor
