/- The walk of PolyProducts. -/
import Derived.Test.YtmfmlgohjpmpfaaDoorPoSure
import Derived.Deep.RegionWith
namespace Go.Proofs.YtmfmlgohjpmpfaaDoor
set_option linter.unusedVariables false
set_option linter.unusedSimpArgs false
open Go.RowKit

/-- How long a product is. -/
def pl (n m : Nat) : Nat := if n = 0 ∨ m = 0 then 0 else n + m - 1
theorem pl_comm (n m : Nat) : pl n m = pl m n := by unfold pl; rw [Nat.add_comm]; simp only [Or.comm]
theorem pl_le {n m : Nat} (hn : n ≤ 1000000) (hm : m ≤ 1000000) : pl n m ≤ 2000000 := by unfold pl; split <;> omega
theorem eval_prod {f g : Nat → Nat} {n m x : Nat} (hx : x < 256) (hf : ∀ k, k < n → f k < 256) (hg : ∀ k, k < m → g k < 256) : evalN (convN f g n m) (pl n m) x = mulN (evalN f n x) (evalN g m x) := by
  unfold pl
  split
  · rename_i h
    rcases h with h | h
    · subst h; show 0 = mulN 0 _; rw [mulN_zero_left]
    · subst h; show 0 = mulN _ 0; rw [mulN_zero_right]
  · exact evalN_conv hx hf hg
theorem bytes_lt {w : World} {oa : Option Addr} {n : Nat} {f : Nat → Nat} (h : Bytes w oa n f) : ∀ k, k < n → f k < 256 := fun k hk => (h k hk).1

/-- A slice that can be told as a string. -/
def Told (w : World) (op : Option Addr) (N cap : Nat) (F : Nat → Nat) : Prop := Bytes w op N F ∧ ((op = none ∧ N = 0 ∧ cap = 0) ∨ 0 < N)
theorem Told.conv {w : World} {op : Option Addr} {N cap : Nat} {F : Nat → Nat} (h : Told w op N cap F) : (convert 22 9 (.slice op N cap)).run Tryd.prog w = .ok (.string (strF N F)) w := by
  rcases h.2 with ⟨rfl, rfl, rfl⟩ | h0
  · rw [conv_nil]; rw [strF_congr (n := 0) (f := F) (g := fun _ => 0) (fun i hi => absurd hi (Nat.not_lt_zero _))]
  · exact conv_bytes Tryd.underlying22 Tryd.underlying5 Tryd.underlying9 h.1 h0
theorem Told.own {w w' : World} {op : Option Addr} {N cap tb : Nat} {F : Nat → Nat} (h : Told w op N cap F) (hO : Own tb w w') (ha : Apart tb op N) : Told w' op N cap F := ⟨h.1.own hO ha, h.2⟩

theorem pmul_u {tb n cp m cq : Nat} {oa ob : Option Addr} {f g : Nat → Nat} (w : World) (h : TabIn w tb) (hb : Bytes w oa n f) (ha : Apart tb oa n) (hy : Bytes w ob m g) (hya : Apart tb ob m)
    (hnl : n ≤ 1000000) (hml : m ≤ 1000000) :
    Calls Tryd.prog 18 #[.pointer (some ⟨tb, 0, none⟩), .slice oa n cp, .slice ob m cq] w fun e w' => ∃ op cap, e = .returned (.slice op (pl n m : Nat) (cap : Nat)) ∧ Told w' op (pl n m) cap (convN f g n m) ∧ Apart tb op (pl n m) ∧ Left tb w w' := by
  have none0 : ∀ w : World, pl n m = 0 → Told w none (pl n m) 0 (convN f g n m) := fun w h0 => ⟨fun k hk => absurd hk (by omega), .inl ⟨rfl, h0, rfl⟩⟩
  by_cases hn : n = 0
  · subst hn
    have h0 : pl 0 m = 0 := if_pos (.inl rfl)
    exact (pmul_zero_left tb oa ob cp m cq w).mono fun e w' ⟨he, hw⟩ => by subst hw; exact ⟨none, 0, by rw [he, h0], none0 _ h0, Apart.none, Left.refl h⟩
  · by_cases hm : m = 0
    · subst hm
      have h0 : pl n 0 = 0 := if_pos (.inr rfl)
      exact (pmul_zero_right tb oa ob n cp cq w).mono fun e w' ⟨he, hw⟩ => by subst hw; exact ⟨none, 0, by rw [he, h0], none0 _ h0, Apart.none, Left.refl h⟩
    · have h0 : pl n m = n + m - 1 := if_neg (by omega)
      have htl := h.lt
      refine (pmul_any tb oa ob n cp m cq f g w h hb ha hy hya (by omega) (by omega) hnl hml).mono ?_
      rintro e w' ⟨pg, rfl, hpg, hR, hL⟩
      rw [h0]
      exact ⟨_, _, rfl, ⟨hR.bytes fun i _ => convN_lt _ _ _ _ i, .inr (by omega)⟩, Apart.of_ne (by omega), hL⟩

theorem eval_t {w0 : World} {n cp v N cap : Nat} {oa op : Option Addr} {f F : Nat → Nat} {x : Nat} {s : ByteArray} (w : World) (hS : St w0 w) (hT : Told w op N cap F) (hTa : Apart w0.heap.size op N) (hs : strF N F = s)
    (hb : Bytes w oa n f) (ha : Apart w0.heap.size oa n) (hn : n ≤ maxLen) (hx : x < 256) (hv : evalN f n x = v) :
    Calls Tryd.prog 16 #[.pointer (some ⟨w0.heap.size, 0, none⟩), .slice oa n cp, .int .u8 x] w fun e w' => e = .returned (.int .u8 (v : Nat)) ∧ St w0 w' ∧ Told w' op N cap F :=
  (eval_is w hS.tab hb ha hn hx hv).mono fun e w' ⟨he, hl⟩ => ⟨he, hS.left hl, hT.own hl.2 hTa⟩
theorem mul_t {w0 : World} {a c v N cap : Nat} {op : Option Addr} {F : Nat → Nat} {s : ByteArray} (w : World) (hS : St w0 w) (hT : Told w op N cap F) (hTa : Apart w0.heap.size op N) (hs : strF N F = s)
    (ha : a < 256) (hc : c < 256) (hv : mulN a c = v) :
    Calls Tryd.prog 26 #[.pointer (some ⟨w0.heap.size, 0, none⟩), .int .u8 a, .int .u8 c] w fun e w' => e = .returned (.int .u8 (v : Nat)) ∧ St w0 w' ∧ Told w' op N cap F ∧ (convert 22 9 (.slice op N cap)).run Tryd.prog w' = .ok (.string s) w' :=
  (mul_is w hS.tab ha hc hv).mono fun e w' ⟨he, hl⟩ => ⟨he, hS.left hl, hT.own hl.2 hTa, by rw [← hs]; exact (hT.own hl.2 hTa).conv⟩
theorem pmul_t {w0 : World} {n cp m cq N cap : Nat} {oa ob op : Option Addr} {f g F : Nat → Nat} {s : ByteArray} (w : World) (hS : St w0 w) (hT : Told w op N cap F) (hTa : Apart w0.heap.size op N) (hs : strF N F = s)
    (hb : Bytes w oa n f) (ha : Apart w0.heap.size oa n) (hy : Bytes w ob m g) (hya : Apart w0.heap.size ob m) (hnl : n ≤ 1000000) (hml : m ≤ 1000000) (hs2 : strF (pl n m) (convN f g n m) = s) :
    Calls Tryd.prog 18 #[.pointer (some ⟨w0.heap.size, 0, none⟩), .slice oa n cp, .slice ob m cq] w fun e w' => ∃ oq M cap2, e = .returned (.slice oq (M : Nat) (cap2 : Nat)) ∧ St w0 w' ∧ (convert 22 9 (.slice op N cap)).run Tryd.prog w' = .ok (.string s) w' ∧ (convert 22 9 (.slice oq M cap2)).run Tryd.prog w' = .ok (.string s) w' :=
  (pmul_u w hS.tab hb ha hy hya hnl hml).mono fun e w' ⟨oq, cap2, he, hq, _, hl⟩ => ⟨oq, _, cap2, he, hS.left hl, by rw [← hs]; exact (hT.own hl.2 hTa).conv, by rw [← hs2]; exact hq.conv⟩

set_option maxRecDepth 100000 in
set_option maxHeartbeats 2000000 in
theorem prods_small (oa ob : Option Addr) (n cp m cq : Nat) (f g : Nat → Nat) (x : Nat) (w : World) (hg : Handle w) (hb : Bytes w oa n f) (hy : Bytes w ob m g)
    (hx : x < 256) (hn : n ≤ 100) (hm : m ≤ 100) :
    Calls Tryd.prog 6 #[.slice oa n cp, .slice ob m cq, .int .u8 x] w fun e w' => e = .returned (.bool true) ∧ Below w.heap.size w w' := by
  obtain ⟨ec, hec⟩ : ∃ v, evalN f n x = v := ⟨_, rfl⟩
  obtain ⟨ed, hed⟩ : ∃ v, evalN g m x = v := ⟨_, rfl⟩
  obtain ⟨ep, hep⟩ : ∃ v, evalN (convN f g n m) (pl n m) x = v := ⟨_, rfl⟩
  have hmul : mulN ec ed = ep := by rw [← hec, ← hed, ← hep]; exact (eval_prod hx (bytes_lt hb) (bytes_lt hy)).symm
  obtain ⟨s, hs⟩ : ∃ s, strF (pl n m) (convN f g n m) = s := ⟨_, rfl⟩
  have hs2 : strF (pl m n) (convN g f m n) = s := by rw [← hs, pl_comm m n]; exact strF_congr fun i _ => convN_comm g f m n i
  have lc : ec < 256 := hec ▸ evalN_lt f n x
  have ld : ed < 256 := hed ▸ evalN_lt g m x
  have hpl := pl_le (n := n) (m := m) (by omega) (by omega)
  have HB : Hid _ := hb
  have HA : Hid _ := hb.apart
  have HY : Hid _ := hy
  have HYA : Hid _ := hy.apart
  have HEC : Hid _ := hec
  have HED : Hid _ := hed
  have HEP : Hid _ := hep
  have HMUL : Hid _ := hmul
  have Hs : Hid _ := hs
  have Hs2 : Hid _ := hs2
  have HN : Hid (n ≤ maxLen) := (by unfold maxLen; omega : n ≤ maxLen)
  have HM : Hid (m ≤ maxLen) := (by unfold maxLen; omega : m ≤ maxLen)
  have HPL : Hid (pl n m ≤ maxLen) := (by unfold maxLen; omega : pl n m ≤ maxLen)
  have HN6 : Hid (n ≤ 1000000) := (by omega : n ≤ 1000000)
  have HM6 : Hid (m ≤ 1000000) := (by omega : m ≤ 1000000)
  clear hb hy hec hed hep hmul hs hs2 hpl
  go_enter Tryd.func6, Tryd.ntmps6
  go_wp2_with fail
  refine (gfnew_any _).mono ?_
  rintro e w0 ⟨rfl, hT0, hB0⟩
  have hS0 := St.new hg hT0 hB0
  clear hT0 hB0
  go_wp2_with fail
  refine (pmul_u (f := f) (g := g) _ ?t1 ?b1 HA.out ?y1 HYA.out HN6.out HM6.out).mono ?_
  case t1 => exact hS0.tab
  case b1 => exact Bytes.later HB.out hS0.bel
  case y1 => exact Bytes.later HY.out hS0.bel
  rintro e w1 ⟨op, pc, rfl, hT, hTa, hL1⟩
  have hS := hS0.left hL1
  have HTA : Hid _ := hTa
  clear hL1 hTa hS0
  obtain ⟨N, hN⟩ : ∃ N, pl n m = N := ⟨_, rfl⟩
  rw [hN] at hT Hs HEP HPL HTA ⊢
  clear hN
  have hS1 := hS.drew
  have hT1 : Told w1.drew op N pc (convN f g n m) := hT
  go_wp2_with fail
  go_region_with
    (first
      | (have q3 := hS3; clear q3; go_at_call 16; refine (eval_t (cap := pc) (F := convN f g n m) (f := g) (v := ed) _ ?_ ?_ HTA.out Hs.out ?_ HYA.out HM.out hx HED.out).mono ?_; exact hS3; exact hT3; exact Bytes.later HY.out hS3.bel; rintro e w4 ⟨rfl, hS4, hT4⟩)
      | (have q2 := hS2; clear q2; go_at_call 16; refine (eval_t (cap := pc) (F := convN f g n m) (f := f) (v := ec) _ ?_ ?_ HTA.out Hs.out ?_ HA.out HN.out hx HEC.out).mono ?_; exact hS2; exact hT2; exact Bytes.later HB.out hS2.bel; rintro e w3 ⟨rfl, hS3, hT3⟩)
      | (go_at_call 16; refine (eval_t (cap := pc) (F := convN f g n m) (f := convN f g n m) (v := ep) _ ?_ ?_ HTA.out Hs.out ?_ HTA.out HPL.out hx HEP.out).mono ?_; exact hS1; exact hT1; exact hT1.1; rintro e w2 ⟨rfl, hS2, hT2⟩)
      | (go_at_call 26; refine (mul_t (cap := pc) (F := convN f g n m) (v := ep) _ ?_ ?_ HTA.out Hs.out lc ld HMUL.out).mono ?_; exact hS4; exact hT4; rintro e w5 ⟨rfl, hS5, hT5, hcv5⟩)
      | (go_at_call 18; refine (pmul_t (cap := pc) (F := convN f g n m) (f := g) (g := f) _ ?_ ?_ HTA.out Hs.out ?_ HYA.out ?_ HA.out HM6.out HN6.out Hs2.out).mono ?_; exact hS5; exact hT5; exact Bytes.later HY.out hS5.bel; exact Bytes.later HB.out hS5.bel; rintro e w6 ⟨oq, M, cq2, rfl, hS6, hcv6, hcq6⟩)
      | (go_at_call 14; refine (sure02 _ ?_).mono ?_; exact hS6.handle; rintro e w7 ⟨rfl, hb7⟩))
  all_goals
    go_wp2_with fail
    go_ret
    exact ⟨rfl, (hS6.later hb7).bel⟩

set_option maxRecDepth 100000 in
set_option maxHeartbeats 400000 in
theorem prods_big (oa ob : Option Addr) (n cp m cq : Nat) (x : Int) (w : World) (hg : Handle w) (h : ¬ (n ≤ 100 ∧ m ≤ 100)) :
    Calls Tryd.prog 6 #[.slice oa n cp, .slice ob m cq, .int .u8 x] w fun e w' => e = .returned (.bool true) ∧ Below w.heap.size w w' := by
  have HS := Lib.hid (sure02 w hg)
  by_cases h1 : n ≤ 100
  · have h2 : ¬ m ≤ 100 := fun hm => h ⟨h1, hm⟩
    go_enter Tryd.func6, Tryd.ntmps6
    go_wp2_with fail
    refine HS.out.mono ?_
    rintro e w1 ⟨rfl, hb⟩
    go_wp2_with fail
    go_ret
    exact ⟨rfl, hb⟩
  · go_enter Tryd.func6, Tryd.ntmps6
    go_wp2_with fail
    refine HS.out.mono ?_
    rintro e w1 ⟨rfl, hb⟩
    go_wp2_with fail
    go_ret
    exact ⟨rfl, hb⟩
theorem prods_any (oa ob : Option Addr) (n cp m cq : Nat) (f g : Nat → Nat) (x : Int) (w : World) (hg : Handle w) (hb : Bytes w oa n f) (hy : Bytes w ob m g) (hx : B8 x) :
    Calls Tryd.prog 6 #[.slice oa n cp, .slice ob m cq, .int .u8 x] w fun e w' => e = .returned (.bool true) ∧ Below w.heap.size w w' := by
  by_cases h : n ≤ 100 ∧ m ≤ 100
  · obtain ⟨k, hk, rfl⟩ := hx.nat
    exact prods_small oa ob n cp m cq f g k w hg hb hy hk h.1 h.2
  · exact prods_big oa ob n cp m cq x w hg h
end Go.Proofs.YtmfmlgohjpmpfaaDoor
