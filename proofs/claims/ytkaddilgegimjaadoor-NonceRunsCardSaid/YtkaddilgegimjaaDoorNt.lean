/- The walk of NonceRuns. -/
import Derived.Test.YtkaddilgegimjaaDoorNs
import Derived.Test.YtkaddilgegimjaaDoorSure18
import Derived.Deep.RegionWith
import Derived.Deep.RegionHeld3
namespace Go.Proofs.YtkaddilgegimjaaDoor
set_option linter.unusedVariables false
set_option linter.unusedSimpArgs false
open Go.RowKit

/-- New memory alone was made, and errors' variable holds what it held. -/
def Nw (w0 w : World) : Prop := Below w0.heap.size w0 w ∧ Handle w ∧ 0 < w0.heap.size
theorem Nw.new {w : World} (h : Handle w) : Nw w w := ⟨Below.refl _ _, h, h.2⟩
theorem Nw.handle {w0 w : World} (h : Nw w0 w) : Handle w := h.2.1
theorem Nw.step {w0 w w' : World} (h : Nw w0 w) (hb : Below w.heap.size w w') : Nw w0 w' := ⟨h.1.trans (hb.mono h.1.size), h.2.1.later hb, h.2.2⟩
theorem Nw.drew {w0 w : World} (h : Nw w0 w) : Nw w0 w.drew := ⟨⟨h.1.os, h.1.tape, h.1.output, h.1.size, h.1.block⟩, h.2.1.drew, h.2.2⟩
theorem Nw.at {w0 w w' : World} (h : Nw w0 w) (hB : Below w0.heap.size w w') : Nw w0 w' := ⟨h.1.trans hB, h.2.1.below hB h.2.2, h.2.2⟩
theorem Nw.own {w0 w w' : World} {b : Nat} (h : Nw w0 w) (hO : Own b w w') (hb : w0.heap.size ≤ b) : Nw w0 w' := h.at (hO.below hb h.1.size)

/-- Twelve bytes of the call's own, told as a string. -/
def Tw (v : Value) (s : ByteArray) (w : World) : Prop := (∃ base F, Grow w base v 12 F ∧ strF 12 F = s) ∨ (∃ g F, v = .slice (some ⟨g, 0, none⟩) 12 12 ∧ Row w g 12 F ∧ (∀ i, i < 12 → F i < 256) ∧ strF 12 F = s)
theorem Tw.conv {v : Value} {s : ByteArray} {w : World} (h : Tw v s w) : (convert 31 9 v).run Tryd.prog w = .ok (.string s) w := by
  rcases h with ⟨base, F, hG, hs⟩ | ⟨g, F, rfl, hR, hf, hs⟩
  · rw [← hs]; exact hG.conv
  · rw [← hs]; exact Bytes.conv (hR.bytes hf)
theorem Tw.later {v : Value} {s : ByteArray} {w w' : World} (h : Tw v s w) (hb : Below w.heap.size w w') : Tw v s w' := by
  rcases h with ⟨base, F, hG, hs⟩ | ⟨g, F, rfl, hR, hf, hs⟩
  · exact .inl ⟨base, F, hG.later hb, hs⟩
  · exact .inr ⟨g, F, rfl, hR.later hb, hf, hs⟩
theorem nb_t {t n : Nat} {ti ni : Int} {s : ByteArray} {w0 : World} (w : World) (hN : Nw w0 w) (hti : ti = (t : Int)) (hni : ni = (n : Int)) (ht : t < 4294967296) (hn : n < 18446744073709551616) (hs : strF 12 (nbF t n) = s) :
    Calls Tryd.prog 20 #[.int .u32 ti, .int .u64 ni] w fun e w' => ∃ v, e = .returned v ∧ Tw v s w' ∧ Nw w0 w' ∧ (convert 31 9 v).run Tryd.prog w' = .ok (.string s) w' := by
  subst hti hni
  exact (nb_grow w ht hn).mono fun e w' ⟨v, he, hG, hb⟩ => have h : Tw v s w' := .inl ⟨_, _, hG, hs⟩; ⟨v, he, h, hN.step hb, h.conv⟩
theorem nb_t2 {t n : Nat} {ti ni : Int} {s : ByteArray} {u : Value} {w0 : World} (w : World) (hN : Nw w0 w) (hu : Tw u s w) (hti : ti = (t : Int)) (hni : ni = (n : Int)) (ht : t < 4294967296) (hn : n < 18446744073709551616) (hs : strF 12 (nbF t n) = s) :
    Calls Tryd.prog 20 #[.int .u32 ti, .int .u64 ni] w fun e w' => ∃ v, e = .returned v ∧ Nw w0 w' ∧ (convert 31 9 v).run Tryd.prog w' = .ok (.string s) w' ∧ (convert 31 9 u).run Tryd.prog w' = .ok (.string s) w' := by
  subst hti hni
  exact (nb_grow w ht hn).mono fun e w' ⟨v, he, hG, hb⟩ => have h : Tw v s w' := .inl ⟨_, _, hG, hs⟩; ⟨v, he, hN.step hb, h.conv, (hu.later hb).conv⟩
theorem rb_t {t n : Nat} {ti ni : Int} {s : ByteArray} {w0 : World} (w : World) (hN : Nw w0 w) (hti : ti = (t : Int)) (hni : ni = (n : Int)) (ht : t < 4294967296) (hn : n < 18446744073709551616) (hs : strF 12 (nbF t n) = s) :
    Calls Tryd.prog 21 #[.int .u32 ti, .int .u64 ni] w fun e w' => ∃ v, e = .returned v ∧ Tw v s w' ∧ Nw w0 w' ∧ (convert 31 9 v).run Tryd.prog w' = .ok (.string s) w' := by
  subst hti hni
  exact (rbytes_any t n w ht hn).mono fun e w' ⟨g, he, hR, hb⟩ => have h : Tw (.slice (some ⟨g, 0, none⟩) 12 12) s w' := .inr ⟨g, _, rfl, hR, nbF_lt ht hn, hs⟩; ⟨_, he, h, hN.step hb, h.conv⟩
theorem rb_t2 {t n : Nat} {ti ni : Int} {s : ByteArray} {u : Value} {w0 : World} (w : World) (hN : Nw w0 w) (hu : Tw u s w) (hti : ti = (t : Int)) (hni : ni = (n : Int)) (ht : t < 4294967296) (hn : n < 18446744073709551616) (hs : strF 12 (nbF t n) = s) :
    Calls Tryd.prog 21 #[.int .u32 ti, .int .u64 ni] w fun e w' => ∃ v, e = .returned v ∧ Nw w0 w' ∧ (convert 31 9 v).run Tryd.prog w' = .ok (.string s) w' ∧ (convert 31 9 u).run Tryd.prog w' = .ok (.string s) w' := by
  subst hti hni
  exact (rbytes_any t n w ht hn).mono fun e w' ⟨g, he, hR, hb⟩ => have h : Tw (.slice (some ⟨g, 0, none⟩) 12 12) s w' := .inr ⟨g, _, rfl, hR, nbF_lt ht hn, hs⟩; ⟨_, he, hN.step hb, h.conv, (hu.later hb).conv⟩
theorem rb_p {t n : Nat} {ti ni : Int} {w0 : World} (w : World) (hN : Nw w0 w) (hti : ti = (t : Int)) (hni : ni = (n : Int)) (ht : t < 4294967296) (hn : n < 18446744073709551616) :
    Calls Tryd.prog 21 #[.int .u32 ti, .int .u64 ni] w fun e w' => ∃ g, e = .returned (.slice (some ⟨g, 0, none⟩) 12 12) ∧ Bytes w' (some ⟨g, 0, none⟩) 12 (nbF t n) ∧ Nw w0 w' := by
  subst hti hni
  exact (rbytes_any t n w ht hn).mono fun e w' ⟨g, he, hR, hb⟩ => ⟨g, he, hR.bytes (nbF_lt ht hn), hN.step hb⟩
theorem be_t {t n : Nat} (ht : t < 4294967296) : beN (nbF t n) 0 4 = t := by
  have e : beN (nbF t n) 0 4 = (((0 * 256 + t / 16777216) * 256 + t / 65536 % 256) * 256 + t / 256 % 256) * 256 + t % 256 := rfl
  rw [e]; omega
theorem be_n {t n : Nat} (hn : n < 18446744073709551616) : beN (nbF t n) 4 8 = n := by
  have e : beN (nbF t n) 4 8 = (((((((0 * 256 + n / 72057594037927936) * 256 + n / 281474976710656 % 256) * 256 + n / 1099511627776 % 256) * 256 + n / 4294967296 % 256) * 256 + n / 16777216 % 256) * 256 + n / 65536 % 256) * 256 + n / 256 % 256) * 256 + n % 256 := rfl
  rw [e]; omega
theorem parse_is {g t n : Nat} {ti ni : Int} (w : World) (hb : Bytes w (some ⟨g, 0, none⟩) 12 (nbF t n)) (hti : ti = (t : Int)) (hni : ni = (n : Int)) (ht : t < 4294967296) (hn : n < 18446744073709551616) :
    Calls Tryd.prog 22 #[.slice (some ⟨g, 0, none⟩) 12 12] w fun e w' => e = .returned (.tuple #[.int .u32 ti, .int .u64 ni, .nilIface]) ∧ w = w' := by
  have h := parse_any g 0 12 (nbF t n) w hb (Nat.le_refl _)
  rw [be_t ht, be_n hn] at h
  rw [hti, hni]; exact h

/-- n truth values lie behind an address. -/
def Bools (w : World) (oa : Option Addr) (n : Nat) (f : Nat → Bool) : Prop := ∀ k, k < n → ∃ b off, oa = some ⟨b, off, none⟩ ∧ w.cell? ⟨b, off + k, none⟩ = some (.bool (f k))
theorem Bools.later {w w' : World} {oa : Option Addr} {n : Nat} {f : Nat → Bool} (h : Bools w oa n f) (hb : Below w.heap.size w w') : Bools w' oa n f := fun k hk => by
  obtain ⟨b, off, h2, h3⟩ := h k hk
  exact ⟨b, off, h2, cell_below hb h3⟩

set_option maxRecDepth 100000 in
set_option maxHeartbeats 4000000 in
theorem nruns_no (oa : Option Addr) (n cp : Nat) (m l : Nat) (w : World) (hg : Handle w) (hm : m < 18446744073709551616) (hl : l < 18446744073709551616) (hno : ¬ (m ≤ l ∧ l ≤ 281474976710656)) :
    Calls Tryd.prog 3 #[.int .u64 m, .int .u64 l, .slice oa n cp] w fun e w' => e = .returned (.bool true) ∧ Below w.heap.size w w' := by
  have hN0 := Nw.new hg
  have hN0d := hN0.drew
  obtain ⟨s, hs⟩ : ∃ s, strF 12 (nbF (m % 4294967296) l) = s := ⟨_, rfl⟩
  have HS := Lib.hid hs
  have HM := Lib.hid (show (m : Int) % 4294967296 = ((m % 4294967296 : Nat) : Int) by omega)
  have HL := Lib.hid (show (l : Int) % 4294967296 = ((l % 4294967296 : Nat) : Int) by omega)
  have hm2 : m % 4294967296 < 4294967296 := by omega
  have hl2 : l % 4294967296 < 4294967296 := by omega
  have HNO := Lib.hid (show ¬ ((m : Int) ≤ (l : Int) ∧ (l : Int) ≤ 281474976710656) by omega)
  have hnot : ∀ (x : Bool) (w : World), (Op.unary .not (.bool x)).run Tryd.prog w = .ok (.bool (!x)) w := fun _ _ => rfl
  clear hs hno
  go_enter Tryd.func3, Tryd.ntmps3
  go_wp2_with fail
  refine (take_nil _).mono ?_
  rintro e w' ⟨rfl, rfl⟩
  go_wp2_with fail
  refine (ext_nil _).mono ?_
  rintro e w' ⟨rfl, rfl⟩
  go_wp2_with fail
  go_region_with
    (first
      | (have q := hN3; clear q; go_at_call 20; refine (nb_t2 (w0 := w) (u := v3) (t := m % 4294967296) (n := l) (s := s) _ ?_ ?_ HM.out rfl hm2 hl HS.out).mono ?_; exact hN3; exact hT3; rintro e w4 ⟨v4, rfl, hN4, hv4, hu4⟩)
      | (have q := hN3; clear q; go_at_call 21; refine (rb_t2 (w0 := w) (u := v3) (t := m % 4294967296) (n := l) (s := s) _ ?_ ?_ HM.out rfl hm2 hl HS.out).mono ?_; exact hN3; exact hT3; rintro e w4 ⟨v4, rfl, hN4, hv4, hu4⟩)
      | (have q := hN2; clear q; go_at_call 20; refine (nb_t (w0 := w) (t := m % 4294967296) (n := l) (s := s) _ ?_ HM.out rfl hm2 hl HS.out).mono ?_; exact hN2; rintro e w3 ⟨v3, rfl, hT3, hN3, hv3⟩)
      | (have q := hN2; clear q; go_at_call 21; refine (rb_t (w0 := w) (t := m % 4294967296) (n := l) (s := s) _ ?_ HM.out rfl hm2 hl HS.out).mono ?_; exact hN2; rintro e w3 ⟨v3, rfl, hT3, hN3, hv3⟩)
      | (go_at_call 18; refine (mark_nil _).mono ?_; rintro e w' ⟨rfl, rfl⟩)
      | (go_at_call 19; refine (left_nil _).mono ?_; rintro e w' ⟨rfl, rfl⟩)
      | (have q := hN1; clear q; go_at_call 17; refine (num_err 1 _ ?_).mono ?_; exact hN1.handle; rintro e w2 ⟨rfl, hb2⟩; have hN2 := hN1.step hb2; clear hb2)
      | (go_at_call 17; refine (num_err 1 _ ?_).mono ?_; exact hN0d.handle; rintro e w1 ⟨rfl, hb1⟩; have hN1 := hN0d.step hb1; clear hb1))
  all_goals
    clear hv4 hu4 hN3 hT3 hN2 hN1 hN0 hN0d hv3
    go_wp2_with fail
    refine (rb_p (w0 := w) (t := l % 4294967296) (n := m) _ hN4 HL.out rfl hl2 hm).mono ?_
    rintro e w5 ⟨g, rfl, hB5, hN5⟩
    go_wp2_with fail
    refine (parse_is (t := l % 4294967296) (n := m) _ hB5 HL.out rfl hl2 hm).mono ?_
    rintro e w' ⟨rfl, rfl⟩
    clear hB5 hN4
    go_wp2_with fail
    refine (new_bad m l _ HNO.out).mono ?_
    rintro e w' ⟨rfl, rfl⟩
    go_wp2_with fail
    refine (rmay_no m l _ HNO.out).mono ?_
    rintro e w' ⟨rfl, rfl⟩
    go_wp2_with fail
    refine (num_err 1 _ hN5.handle).mono ?_
    rintro e w6 ⟨rfl, hb6⟩
    have hN6 := hN5.step hb6
    clear hb6 hN5
    go_wp2_with fail
    refine (sure_any _ hN6.handle).mono ?_
    rintro e w7 ⟨rfl, hb7⟩
    go_wp2_with fail
    go_ret
    exact ⟨rfl, (hN6.step hb7).1⟩
end Go.Proofs.YtkaddilgegimjaaDoor
