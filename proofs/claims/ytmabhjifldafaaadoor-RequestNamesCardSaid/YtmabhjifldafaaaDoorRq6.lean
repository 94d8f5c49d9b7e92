/- Responses as bytes. -/
import Derived.Test.YtmabhjifldafaaaDoorRq4
namespace Go.Proofs.YtmabhjifldafaaaDoor
set_option linter.unusedVariables false
set_option linter.unusedSimpArgs false
open Go.RowKit

/-- A response's two cells, in the first block behind a world. -/
structure RP (w0 : World) (z ar : Value) (wr : World) : Prop where
  c0 : wr.cell? ⟨w0.heap.size, 0, none⟩ = some z
  c1 : wr.cell? ⟨w0.heap.size, 1, none⟩ = some ar
  o : Below w0.heap.size w0 wr
theorem RP.later {w0 wr w' : World} {z ar : Value} (h : RP w0 z ar wr) (hb : Below wr.heap.size wr w') : RP w0 z ar w' :=
  ⟨cell_below hb h.c0, cell_below hb h.c1, h.o.trans (hb.mono h.o.size)⟩
theorem RP.new (w : World) (z ar : Value) (t : TypeId) : RP w z ar (w.alloc (.cells #[z, ar] t)) :=
  ⟨World.cell?_alloc_mark w #[z, ar] t (0, 0) 0, World.cell?_alloc_mark w #[z, ar] t (0, 0) 1, (Below.refl _ _).alloc (Nat.le_refl _) _⟩
def rpL (L : Nat → Nat) : Nat → Nat := catL 1 (fun _ => 2) L
def rpG (k : Nat) (G : Nat → Nat → Nat) : Nat → Nat → Nat := catG 1 (fun _ => two (k / 256) (k % 256)) G
def rpS (z : Int) (q : Nat) (L : Nat → Nat) (G : Nat → Nat → Nat) : ByteArray := if 0 ≤ z ∧ z ≤ 65535 then encS (1 + q) (rpL L) (rpG z.toNat G) else ⟨#[]⟩
def rpK (z : Int) (q : Nat) (L : Nat → Nat) : Nat := if 0 ≤ z ∧ z ≤ 65535 then encK (1 + q) (rpL L) else 4
set_option maxRecDepth 100000 in
set_option maxHeartbeats 8000000 in
theorem rp_ans (z : Int) (oa : Option Addr) (q ca : Nat) (L : Nat → Nat) (G : Nat → Nat → Nat) (w : World) (h1 : -9223372036854775808 ≤ z) (h2 : z ≤ 9223372036854775807)
    (hL : LBs w oa q L G) (hq : q ≤ ca) (hca : ca ≤ maxLen) (hqo : oa = none → q = 0) (hq4 : q ≤ 1000) (hl : ∀ i, i < q → L i ≤ 100000) :
    Calls Tryd.prog 26 #[.agg #[.int .i64 z, .slice oa q ca]] w fun e w' => ∃ o m c v, e = .returned (.tuple #[.slice o m c, v]) ∧ CV w' o m (rpS z q L G) ∧ m ≤ c ∧ c ≤ maxLen ∧ Er v (rpK z q L) ∧ Below w.heap.size w w' := by
  obtain ⟨wa, hwa⟩ : ∃ x, w.alloc (.cells #[.int .i64 z, .slice oa q ca] 52) = x := ⟨_, rfl⟩
  have hR : RP w (.int .i64 z) (.slice oa q ca) wa := by rw [← hwa]; exact RP.new _ _ _ _
  have HR := Lib.hid hR
  have HA : Hid (∀ w', Below w.heap.size w w' → LBx w' w.heap.size oa q L G) := Lib.hid fun w' h => hL.x.later h
  have HN : Hid ((oa = none → q = 0) ∧ (∀ i, i < q → L i ≤ 100000) ∧ q ≤ 1000) := Lib.hid ⟨hqo, hl, hq4⟩
  have c0 := hR.c0
  have c1 := hR.c1
  clear hR hL hqo hl hq hca hq4
  unfold rpS rpK
  by_cases hm : 0 ≤ z ∧ z ≤ 65535
  · simp only [if_pos hm]
    obtain ⟨k, rfl⟩ : ∃ k : Nat, z = (k : Int) := ⟨z.toNat, by omega⟩
    rw [show (k : Int).toNat = k from by omega]
    obtain ⟨hi, hhi⟩ : ∃ x, k / 256 = x := ⟨_, rfl⟩
    obtain ⟨lo, hlo⟩ : ∃ x, k % 256 = x := ⟨_, rfl⟩
    have HB : Hid (k / 256 = hi ∧ k % 256 = lo ∧ hi < 256 ∧ lo < 256) := Lib.hid ⟨hhi, hlo, by omega, by omega⟩
    have g1 : ¬ (k : Int) < 0 := by omega
    have g2 : ¬ 65535 < (k : Int) := by omega
    have g3 : (k : Int) / 256 = (hi : Int) := by omega
    have g4 : (k : Int) % 256 = (lo : Int) := by omega
    have g5 : IntKind.u8.wrap (hi : Int) = (hi : Int) := IntWalk.u8_in _ (by omega)
    have g6 : IntKind.u8.wrap (k : Int) = (lo : Int) := by rw [IntKind.wrap_u8]; exact g4
    have g7 : IntKind.u8.wrap (lo : Int) = (lo : Int) := IntWalk.u8_in _ (by omega)
    have g8 : (k : Int).tdiv 256 = (hi : Int) := by rw [Int.tdiv_eq_ediv_of_nonneg (by omega)]; exact g3
    have g9 : (k : Int).tmod 256 = (lo : Int) := by rw [Int.tmod_eq_emod_of_nonneg (by omega)]; exact g4
    have g10 : IntKind.i64.wrap (hi : Int) = (hi : Int) := IntWalk.i64_in _ (by omega)
    have g11 : IntKind.i64.wrap (lo : Int) = (lo : Int) := IntWalk.i64_in _ (by omega)
    have g12 : (k : Int) / 2 ^ 8 = (hi : Int) := g3
    have g13 : (hi : Int) % 256 = (hi : Int) := by omega
    obtain ⟨w1, hw1⟩ : ∃ x, wa.alloc (.cells #[.int .u8 (hi : Int), .int .u8 (lo : Int)] 5) = x := ⟨_, rfl⟩
    have hal : Below wa.heap.size wa w1 := by rw [← hw1]; exact (Below.refl _ _).alloc (Nat.le_refl _) _
    have hR1 := HR.out.later hal
    have hb1 : Bytes w1 (some ⟨wa.heap.size, 0, none⟩) 2 (two hi lo) := by rw [← hw1]; exact ob2 HB.out.2.2.1 HB.out.2.2.2
    obtain ⟨w2, hw2⟩ : ∃ x, w1.alloc (.cells #[.slice (some ⟨wa.heap.size, 0, none⟩) 2 2] 33) = x := ⟨_, rfl⟩
    have hal2 : Below w1.heap.size w1 w2 := by rw [← hw2]; exact (Below.refl _ _).alloc (Nat.le_refl _) _
    have H2 : Hid (RP w (.int .i64 k) (.slice oa q ca) w2) := Lib.hid (hR1.later hal2)
    have HL2 : Hid (RL w2 w.heap.size (.slice (some ⟨w1.heap.size, 0, none⟩) 1 1) 1 (fun _ => 2) (fun _ => two hi lo)) := Lib.hid (by
      rw [← hw2]
      refine RL.made (w := w1) [.slice (some ⟨wa.heap.size, 0, none⟩) 2 2] rfl (by unfold maxLen; omega) hR1.o.size fun i hi => ?_
      obtain rfl : i = 0 := by omega
      exact ⟨_, 2, rfl, Nat.le_refl _, by unfold maxLen; omega, hb1, fun e => (by cases e)⟩)
    have f1 := H2.out.c1
    clear hal hal2 hR1 hb1 HR hm hhi hlo h1 h2
    go_enter Tryd.func26, Tryd.ntmps26
    go_wp2_with (first
      | ((try rw [hwa, hw1, hw2])
         refine wpList_appRs rfl (.tmp 23) (.tmp 25) rfl w.heap.size _ 1 q ca _ L _ G oa w2 rfl HL2.out rfl (HA.out _ H2.out.o) HN.out.1 (by have := HN.out.2.2; omega) H2.out.o.size ?_
         intro v5 w5 hR5 hb5
         have H5 : Hid (RL w5 w.heap.size v5 (1 + q) (rpL L) (rpG k G) ∧ Below w.heap.size w w5) := Lib.hid ⟨by unfold rpG; rw [HB.out.1, HB.out.2.1]; exact hR5, H2.out.o.trans hb5⟩
         clear hR5 hb5))
    obtain ⟨o5, c5, rfl, hc5, hm5, hL5, _⟩ := H5.out.1.lbs
    refine (enc_sk o5 (1 + q) c5 _ _ (Nat.le_trans hc5 hm5) (fun i hi => ?_) w5 hL5).mono ?_
    · unfold rpL catL
      by_cases e : i < 1
      · rw [if_pos e]; show 2 ≤ 100000; omega
      · rw [if_neg e]; exact HN.out.2.1 _ (by omega)
    rintro e w6 ⟨o6, m6, c6, v6, rfl, hv6, hm6, hc6, hr6, hb6⟩
    have H6 : Hid (CV w6 o6 m6 (encS (1 + q) (rpL L) (rpG k G)) ∧ Below w.heap.size w w6) := Lib.hid ⟨hv6, H5.out.2.trans (hb6.mono H5.out.2.size)⟩
    clear hv6 hb6 hL5 hc5 hm5
    go_wp2_with fail
    go_ret2
    exact ⟨o6, m6, c6, v6, rfl, H6.out.1, hm6, hc6, hr6, H6.out.2⟩
  · simp only [if_neg hm]
    replace hm : z < 0 ∨ 65535 < z := by omega
    rcases hm with hm | hm
    · have g1 : z < 0 := hm
      clear hm h1 h2
      go_enter Tryd.func26, Tryd.ntmps26
      go_wp2_with fail
      go_ret2
      exact ⟨none, 0, 0, _, rfl, CV.none _, Nat.le_refl _, by unfold maxLen; omega, .inr ⟨rfl, by decide⟩, HR.out.o⟩
    · have g1 : ¬ z < 0 := by omega
      have g2 : 65535 < z := hm
      clear hm h1 h2
      go_enter Tryd.func26, Tryd.ntmps26
      go_wp2_with fail
      go_ret2
      exact ⟨none, 0, 0, _, rfl, CV.none _, Nat.le_refl _, by unfold maxLen; omega, .inr ⟨rfl, by decide⟩, HR.out.o⟩
set_option maxRecDepth 100000 in
set_option maxHeartbeats 8000000 in
theorem rrp_ans (z : Int) (oa : Option Addr) (q ca : Nat) (L : Nat → Nat) (G : Nat → Nat → Nat) (w : World) (h1 : -9223372036854775808 ≤ z) (h2 : z ≤ 9223372036854775807)
    (hL : LBs w oa q L G) (hq : q ≤ ca) (hca : ca ≤ maxLen) (hqo : oa = none → q = 0) (hq4 : q ≤ 1000) (hl : ∀ i, i < q → L i ≤ 100000) :
    Calls Tryd.prog 27 #[.agg #[.int .i64 z, .slice oa q ca]] w fun e w' => ∃ o m c, e = .returned (.tuple #[.slice o m c, .int .i64 (rpK z q L : Nat)]) ∧ CV w' o m (rpS z q L G) ∧ Below w.heap.size w w' := by
  obtain ⟨wa, hwa⟩ : ∃ x, w.alloc (.cells #[.int .i64 z, .slice oa q ca] 38) = x := ⟨_, rfl⟩
  have hR : RP w (.int .i64 z) (.slice oa q ca) wa := by rw [← hwa]; exact RP.new _ _ _ _
  have HR := Lib.hid hR
  have HA : Hid (∀ w', Below w.heap.size w w' → LBx w' w.heap.size oa q L G) := Lib.hid fun w' h => hL.x.later h
  have HN : Hid ((oa = none → q = 0) ∧ (∀ i, i < q → L i ≤ 100000) ∧ q ≤ 1000) := Lib.hid ⟨hqo, hl, hq4⟩
  have c0 := hR.c0
  have c1 := hR.c1
  clear hR hL hqo hl hq hca hq4
  unfold rpS rpK
  by_cases hm : 0 ≤ z ∧ z ≤ 65535
  · simp only [if_pos hm]
    obtain ⟨k, rfl⟩ : ∃ k : Nat, z = (k : Int) := ⟨z.toNat, by omega⟩
    rw [show (k : Int).toNat = k from by omega]
    obtain ⟨hi, hhi⟩ : ∃ x, k / 256 = x := ⟨_, rfl⟩
    obtain ⟨lo, hlo⟩ : ∃ x, k % 256 = x := ⟨_, rfl⟩
    have HB : Hid (k / 256 = hi ∧ k % 256 = lo ∧ hi < 256 ∧ lo < 256) := Lib.hid ⟨hhi, hlo, by omega, by omega⟩
    have g1 : ¬ (k : Int) < 0 := by omega
    have g2 : ¬ 65535 < (k : Int) := by omega
    have g3 : (k : Int) / 256 = (hi : Int) := by omega
    have g4 : (k : Int) % 256 = (lo : Int) := by omega
    have g5 : IntKind.u8.wrap (hi : Int) = (hi : Int) := IntWalk.u8_in _ (by omega)
    have g6 : IntKind.u8.wrap (k : Int) = (lo : Int) := by rw [IntKind.wrap_u8]; exact g4
    have g7 : IntKind.u8.wrap (lo : Int) = (lo : Int) := IntWalk.u8_in _ (by omega)
    have g8 : (k : Int).tdiv 256 = (hi : Int) := by rw [Int.tdiv_eq_ediv_of_nonneg (by omega)]; exact g3
    have g9 : (k : Int).tmod 256 = (lo : Int) := by rw [Int.tmod_eq_emod_of_nonneg (by omega)]; exact g4
    have g10 : IntKind.i64.wrap (hi : Int) = (hi : Int) := IntWalk.i64_in _ (by omega)
    have g11 : IntKind.i64.wrap (lo : Int) = (lo : Int) := IntWalk.i64_in _ (by omega)
    have g12 : (k : Int) / 2 ^ 8 = (hi : Int) := g3
    have g13 : (hi : Int) % 256 = (hi : Int) := by omega
    obtain ⟨w1, hw1⟩ : ∃ x, wa.alloc (.cells #[.int .u8 (hi : Int), .int .u8 (lo : Int)] 5) = x := ⟨_, rfl⟩
    have hal : Below wa.heap.size wa w1 := by rw [← hw1]; exact (Below.refl _ _).alloc (Nat.le_refl _) _
    have hR1 := HR.out.later hal
    have hb1 : Bytes w1 (some ⟨wa.heap.size, 0, none⟩) 2 (two hi lo) := by rw [← hw1]; exact ob2 HB.out.2.2.1 HB.out.2.2.2
    obtain ⟨w2, hw2⟩ : ∃ x, w1.alloc (.cells #[.slice (some ⟨wa.heap.size, 0, none⟩) 2 2] 33) = x := ⟨_, rfl⟩
    have hal2 : Below w1.heap.size w1 w2 := by rw [← hw2]; exact (Below.refl _ _).alloc (Nat.le_refl _) _
    have H2 : Hid (RP w (.int .i64 k) (.slice oa q ca) w2) := Lib.hid (hR1.later hal2)
    have HL2 : Hid (RL w2 w.heap.size (.slice (some ⟨w1.heap.size, 0, none⟩) 1 1) 1 (fun _ => 2) (fun _ => two hi lo)) := Lib.hid (by
      rw [← hw2]
      refine RL.made (w := w1) [.slice (some ⟨wa.heap.size, 0, none⟩) 2 2] rfl (by unfold maxLen; omega) hR1.o.size fun i hi => ?_
      obtain rfl : i = 0 := by omega
      exact ⟨_, 2, rfl, Nat.le_refl _, by unfold maxLen; omega, hb1, fun e => (by cases e)⟩)
    have f1 := H2.out.c1
    clear hal hal2 hR1 hb1 HR hm hhi hlo h1 h2
    go_enter Tryd.func27, Tryd.ntmps27
    go_wp2_with (first
      | ((try rw [hwa, hw1, hw2])
         refine wpList_appRs rfl (.tmp 23) (.tmp 25) rfl w.heap.size _ 1 q ca _ L _ G oa w2 rfl HL2.out rfl (HA.out _ H2.out.o) HN.out.1 (by have := HN.out.2.2; omega) H2.out.o.size ?_
         intro v5 w5 hR5 hb5
         have H5 : Hid (RL w5 w.heap.size v5 (1 + q) (rpL L) (rpG k G) ∧ Below w.heap.size w w5) := Lib.hid ⟨by unfold rpG; rw [HB.out.1, HB.out.2.1]; exact hR5, H2.out.o.trans hb5⟩
         clear hR5 hb5))
    obtain ⟨o5, c5, rfl, hc5, hm5, hL5, _⟩ := H5.out.1.lbs
    refine (renc_sk o5 (1 + q) c5 _ _ (Nat.le_trans hc5 hm5) (fun i hi => ?_) w5 hL5).mono ?_
    · unfold rpL catL
      by_cases e : i < 1
      · rw [if_pos e]; show 2 ≤ 100000; omega
      · rw [if_neg e]; exact HN.out.2.1 _ (by omega)
    rintro e w6 ⟨o6, m6, c6, rfl, hv6, hb6⟩
    have H6 : Hid (CV w6 o6 m6 (encS (1 + q) (rpL L) (rpG k G)) ∧ Below w.heap.size w w6) := Lib.hid ⟨hv6, H5.out.2.trans (hb6.mono H5.out.2.size)⟩
    clear hv6 hb6 hL5 hc5 hm5
    go_wp2_with fail
    go_ret2
    exact ⟨o6, m6, c6, rfl, H6.out.1, H6.out.2⟩
  · simp only [if_neg hm]
    replace hm : z < 0 ∨ 65535 < z := by omega
    rcases hm with hm | hm
    · have g1 : z < 0 := hm
      clear hm h1 h2
      go_enter Tryd.func27, Tryd.ntmps27
      go_wp2_with fail
      go_ret2
      exact (by first | exact ⟨none, 0, 0, rfl, CV.none _, HR.out.o⟩ | exact ⟨none, 0, ⟨0, rfl⟩, CV.none _, HR.out.o⟩ | exact ⟨⟨0, rfl⟩, CV.none _, HR.out.o⟩)
    · have g1 : ¬ z < 0 := by omega
      have g2 : 65535 < z := hm
      clear hm h1 h2
      go_enter Tryd.func27, Tryd.ntmps27
      go_wp2_with fail
      go_ret2
      exact (by first | exact ⟨none, 0, 0, rfl, CV.none _, HR.out.o⟩ | exact ⟨none, 0, ⟨0, rfl⟩, CV.none _, HR.out.o⟩ | exact ⟨⟨0, rfl⟩, CV.none _, HR.out.o⟩)
end Go.Proofs.YtmabhjifldafaaaDoor
