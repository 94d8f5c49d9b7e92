/- Contracts of poly.Weights, poly.Interp. -/
import Derived.Test.YtgiffaeckhhmpaaDoorPoPlaces
namespace Go.Proofs.YtgiffaeckhhmpaaDoor
set_option linter.unusedVariables false
set_option linter.unusedSimpArgs false
open Go.RowKit

theorem Row.congr {w : World} {g n : Nat} {f f' : Nat → Nat} (h : Row w g n f) (he : ∀ i, i < n → f i = f' i) : Row w g n f' := by
  unfold Row at h ⊢; rw [← rowC_congr he]; exact h
theorem Bytes.congr {w : World} {oa : Option Addr} {n : Nat} {f f' : Nat → Nat} (h : Bytes w oa n f) (he : ∀ i, i < n → f i = f' i) : Bytes w oa n f' := fun k hk => by rw [← he k hk]; exact h k hk
/-- The weights of the first k. -/
def partF (f : Nat → Nat) (x n k : Nat) : Nat → Nat := fun i => if i < k then wF f i x n else 0
theorem partF_step (f : Nat → Nat) (x n k : Nat) : upd (partF f x n k) k (wF f k x n) = partF f x n (k + 1) := by
  funext i
  unfold upd partF
  by_cases e : i = k
  · subst e; rw [if_pos rfl, if_pos (by omega)]
  · rw [if_neg e]
    by_cases h : i < k
    · rw [if_pos h, if_pos (by omega)]
    · rw [if_neg h, if_neg (by omega)]
theorem TabIn.later {w w' : World} {b : Nat} (h : TabIn w b) (hb : Below w.heap.size w w') : TabIn w' b := h.below hb
theorem Left.of_below {tb : Nat} {w w' : World} (h : TabIn w tb) (hb : Below w.heap.size w w') : Left tb w w' := ⟨h.below hb, Own.of_below hb⟩
theorem TabIn.set_other {w : World} {b c : Nat} (h : TabIn w b) (hn : b ≠ c) (k : Nat) (v : Value) : TabIn (w.setCell ⟨c, k, none⟩ v) b :=
  h.own ((Own.refl c w).set k v) hn
theorem Own.set_new {b c : Nat} {w w1 : World} (h : Own b w w1) (k : Nat) (v : Value) (hc : w.heap.size ≤ c) : Own b w (w1.setCell ⟨c, k, none⟩ v) :=
  ⟨h.os, h.tape, h.output, by simp [World.setCell]; exact h.size, fun i hi hn => (Below.heap_setCell _ _ _ _ (show i ≠ c by omega)).trans (h.block i hi hn)⟩

set_option maxHeartbeats 400000 in
theorem weights_nil (oa : Option Addr) (n cp : Nat) (x : Int) (w : World) :
    Calls Tryd.prog 53 #[.pointer none, .slice oa n cp, .int .u8 x] w fun e w' => e = .returned (.tuple #[.slice none 0 0, .iface 83 (.int .i64 1)]) ∧ w = w' := by
  go_enter Tryd.func53, Tryd.ntmps53
  go_wp2_with fail
  go_ret2
  exact ⟨rfl, rfl⟩
set_option maxRecDepth 100000 in
set_option maxHeartbeats 800000 in
theorem weights_bad (tb : Nat) (oa : Option Addr) (n cp : Nat) (f : Nat → Nat) (x : Int) (w : World) (hb : Bytes w oa n f) (hn : n ≤ maxLen) (hp : placesB f n = false) :
    Calls Tryd.prog 53 #[.pointer (some ⟨tb, 0, none⟩), .slice oa n cp, .int .u8 x] w fun e w' => e = .returned (.tuple #[.slice none 0 0, .iface 83 (.int .i64 1)]) ∧ Below w.heap.size w w' := by
  have HP := Lib.hid (places_any oa n cp f false w hb hn hp)
  have hnot : ∀ (x : Bool) (w : World), (Op.unary .not (.bool x)).run Tryd.prog w = .ok (.bool (!x)) w := fun _ _ => rfl
  clear hb hp
  go_enter Tryd.func53, Tryd.ntmps53
  go_wp2_with fail
  refine HP.out.mono ?_
  rintro e w1 ⟨rfl, hb1⟩
  go_wp2_with fail
  go_ret2
  exact ⟨rfl, hb1⟩

set_option maxRecDepth 100000 in
set_option maxHeartbeats 2000000 in
theorem weights_any (tb : Nat) (oa : Option Addr) (n cp : Nat) (f : Nat → Nat) (x : Nat) (w : World) (h : TabIn w tb) (hb : Bytes w oa n f) (ha : Apart tb oa n) (hn : n ≤ maxLen) (hx : x < 256)
    (hp : placesB f n = true) :
    Calls Tryd.prog 53 #[.pointer (some ⟨tb, 0, none⟩), .slice oa n cp, .int .u8 x] w fun e w' => ∃ g, e = .returned (.tuple #[.slice (some ⟨g, 0, none⟩) n n, .nilIface]) ∧ w.heap.size ≤ g ∧ Row w' g n (fun a => wF f a x n) ∧ Left tb w w' := by
  obtain ⟨i0, hi, hz0, hz1, hz2⟩ := info_parts info_u8
  obtain ⟨hd, h1n, hn255⟩ := placesB_iff.1 hp
  have HPL := Lib.hid (places_any oa n cp f true w hb hn hp)
  have htl := h.lt
  have HB : Hid _ := hb
  have HA : Hid _ := ha
  have HD : Hid _ := hd
  have HN : Hid _ := hn
  have hnot : ∀ (x : Bool) (w : World), (Op.unary .not (.bool x)).run Tryd.prog w = .ok (.bool (!x)) w := fun _ _ => rfl
  clear hb ha hd hp hn
  go_enter Tryd.func53, Tryd.ntmps53
  go_wp2_with fail
  refine HPL.out.mono ?_
  rintro e w1 ⟨rfl, hb1⟩
  clear HPL
  go_wp2_with (at_make; refine wpList_make_full _ rfl _ _ 34 rfl w1.heap.size 5 i0 (.int .u8 0) 1 Tryd.underlying34 hi hz0 hz1 .i64 .i64 (n : Int) (n : Int) n rfl rfl rfl rfl ?c1 ?c2 (Nat.le_refl _) ?_)
  case c1 => rw [hz2]; omega
  case c2 => unfold maxLen; omega
  intro w2 hown2 hg2
  have hR : Row w2 w1.heap.size n (fun _ => 0) := Row.made hown2
  obtain ⟨g, hg⟩ : ∃ g, w1.heap.size = g := ⟨_, rfl⟩
  have hb2 : Below w.heap.size w w2 := hb1.trans ((below_grown hg2).mono hb1.size)
  have hgw : w.heap.size ≤ g := hg ▸ hb1.size
  have hne : g ≠ tb := by omega
  have hT : TabIn w2 tb := h.later hb2
  have hO : Own tb w w2 := Own.of_below hb2
  rw [hg] at hR ⊢
  clear hown2 hg2 hb1 hb2 h hg hi hz0 hz1 hz2
  go_wp2_with fail
  go_loopw [25] (fun i wr => ∃ k : Nat, k ≤ n ∧ i = .int .i64 k ∧ Row wr g n (partF f x n k) ∧ TabIn wr tb ∧ Own tb w wr) (fun i _ => n - (intOf i).toNat)
  case atStart => exact ⟨0, Nat.zero_le _, rfl, hR.congr (fun i _ => rfl), hT, hO⟩
  case round =>
    obtain ⟨k, hk, rfl, hX, hTr, hOr⟩ := hrel
    clear hR hT hO
    by_cases hlt : k < n
    · have hk0 : (0 : Int) ≤ (k : Int) := by omega
      have hk1 : (k : Int) < (n : Int) := by omega
      have hw := wF_lt f k x n
      go_wp2_with fail
      refine (weight_any tb oa n cp f k x _ hTr (Bytes.own HB.out hOr HA.out) HA.out HN.out hx hlt HD.out).mono ?_
      rintro e w3 ⟨rfl, hL3⟩
      have hX3 : Row w3 g n (partF f x n k) := hX.own hL3.2 hne
      have c1 : w3.cell? ⟨g, k, none⟩ = some (.int .u8 (partF f x n k k : Nat)) := hX3.cell hlt
      have f1 : w3.frozen? ⟨g, k, none⟩ = false := Blk.free hX3 k
      have hX4 := hX3.set k (wF f k x n)
      rw [partF_step] at hX4
      have hT4 : TabIn (w3.setCell ⟨g, k, none⟩ (.int .u8 (wF f k x n : Nat))) tb := hL3.1.set_other (Ne.symm hne) k _
      have hO4 : Own tb w (w3.setCell ⟨g, k, none⟩ (.int .u8 (wF f k x n : Nat))) := (hOr.trans hL3.2).set_new k _ hgw
      clear hX hX3 hTr hOr hL3
      generalize wF f k x n = v at *
      generalize partF f x n k k = v0 at *
      go_wp2_with fail
      go_roundw
      case rel => exact ⟨k + 1, by omega, by go_num, hX4, hT4, hO4⟩
      case measure => simp [intOf]; omega
    · obtain rfl : k = n := by omega
      go_wp2_with fail
      go_ret2
      exact ⟨g, rfl, hgw, hX.congr (fun i hi => if_pos hi), hTr, hOr⟩

/-- What the polynomial through places is: the first k. -/
def intF (f g : Nat → Nat) (x n : Nat) : Nat → Nat := xsum fun i => mulN (g i) (wF f i x n)
theorem intF_lt (f g : Nat → Nat) (x n k : Nat) : intF f g x n k < 256 := xsum_lt k fun _ _ => mulN_lt _ _

end Go.Proofs.YtgiffaeckhhmpaaDoor
