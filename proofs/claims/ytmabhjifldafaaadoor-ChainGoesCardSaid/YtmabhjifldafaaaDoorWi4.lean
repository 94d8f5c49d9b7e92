/- Fields of bytes, as the program reads them. -/
import Derived.Test.YtmabhjifldafaaaDoorWi3
namespace Go.Proofs.YtmabhjifldafaaaDoor
set_option linter.unusedVariables false
set_option linter.unusedSimpArgs false
open Go.RowKit

def dG (B : Nat → Nat) : Nat → Nat → Nat := fun i t => B (ps B i + 2 + t)
/-- What is answered for bytes. -/
def DecA (n : Nat) (B : Nat → Nat) (ok e3 e4 : Value) (w0 : World) (e : Ending) (w' : World) : Prop :=
  Below w0.heap.size w0 w' ∧ ((Fits n B ∧ ∃ oa c, e = .returned (.tuple #[.slice oa (B 0) c, ok]) ∧ LBs w' oa (B 0) (fl B) (dG B) ∧ (oa = none → B 0 = 0) ∧ B 0 ≤ c ∧ c ≤ maxLen) ∨
    (1024 < n ∧ e = .returned (.tuple #[.slice none 0 0, e3])) ∨ (n ≤ 1024 ∧ ¬ Fits n B ∧ e = .returned (.tuple #[.slice none 0 0, e4])))
theorem not_fits {n i : Nat} {B : Nat → Nat} (hi : i < B 0) (h : n < ps B (i + 1)) : ¬ Fits n B := fun hf => by
  have := hf.at hi
  rw [ps_succ] at h; omega
/-- While fields are taken. -/
structure DS (w0 : World) (n : Nat) (B : Nat → Nat) (i : Nat) (vb : Value) (p : Option Addr) (r cr : Nat) (wr : World) : Prop where
  b : Bytes wr p r (fun t => B (ps B i + t))
  n : ps B i + r = n
  c : r ≤ cr ∧ cr ≤ maxLen
  l : RL wr w0.heap.size vb i (fl B) (dG B)
  o : Below w0.heap.size w0 wr
  q : ∀ a, p = some a → a.block < w0.heap.size
set_option maxRecDepth 100000 in
set_option maxHeartbeats 8000000 in
theorem dec_any (ob : Option Addr) (n cap : Nat) (B : Nat → Nat) (w : World) (hB : Bytes w ob n B) (hc : n ≤ cap) (hm : cap ≤ maxLen) :
    Calls Tryd.prog 69 #[.slice ob n cap] w (DecA n B .nilIface (.iface 118 (.int .i64 3)) (.iface 118 (.int .i64 4)) w) := by
  unfold maxLen at hm
  have hn0 : (n : Int) ≤ 9223372036854775807 := by omega
  go_enter Tryd.func69, Tryd.ntmps69
  by_cases h10 : 1024 < n
  · have h1 : (1024 : Int) < (n : Int) := by omega
    have H10 := Lib.hid h10
    clear h10
    go_wp2_with fail
    go_ret2
    exact ⟨Below.refl _ _, .inr (.inl ⟨H10.out, rfl⟩)⟩
  · have h1 : ¬ (1024 : Int) < (n : Int) := by omega
    have H10 : Hid (n ≤ 1024) := Lib.hid (by omega)
    by_cases hn1 : n < 1
    · have h2 : (n : Int) < 1 := by omega
      have HN1 := Lib.hid hn1
      clear hn1 h10
      go_wp2_with fail
      go_ret2
      exact ⟨Below.refl _ _, .inr (.inr ⟨H10.out, fun h => by have := h.1; have := HN1.out; omega, rfl⟩)⟩
    · have h2 : ¬ (n : Int) < 1 := by omega
      obtain ⟨hx8, b, off, rfl, hc0⟩ := hB 0 (by omega)
      obtain ⟨m, hmE⟩ : ∃ m, B 0 = m := ⟨_, rfl⟩
      rw [hmE] at hc0 hx8
      have c0 : w.cell? ⟨b, off, none⟩ = some (.int .u8 (m : Nat)) := hc0
      have r5 : 0 < n := by omega
      have r6 : (0 : Int) < (n : Int) := by omega
      have r7 : 1 ≤ n := by omega
      have r8 : (1 : Int) ≤ (n : Int) := by omega
      have HM : Hid (B 0 = m) := Lib.hid hmE
      have HNC : Hid (1 ≤ n ∧ n ≤ cap ∧ cap ≤ 9223372036854775807) := Lib.hid (by omega)
      have HB := Lib.hid hB
      have HLT : Hid (b < w.heap.size) := Lib.hid (hB.lt _ rfl (by omega))
      clear hB hc0 hmE h10 hn1
      by_cases h16 : 16 < m
      · have h3 : (16 : Int) < (m : Int) := by omega
        have H16 := Lib.hid h16
        clear h16
        go_wp2_with fail
        go_ret2
        exact ⟨Below.refl _ _, .inr (.inr ⟨H10.out, fun h => by have := h.2.2.1; have := H16.out; have := HM.out; omega, rfl⟩)⟩
      · have h3 : ¬ (16 : Int) < (m : Int) := by omega
        have H16 : Hid (m ≤ 16) := Lib.hid (by omega)
        have r9 : (n : Int) ≤ (cap : Int) := by omega
        clear h16
        by_cases e1 : cap = 1
        · have e2 : n = 1 := by omega
          have H1 : Hid (DS w n B 0 (.slice none 0 0) (some ⟨b, off, none⟩) 0 0 w) := Lib.hid ⟨fun k hk => absurd hk (Nat.not_lt_zero _), by show 1 + 0 = n; omega, ⟨Nat.le_refl _, by unfold maxLen; omega⟩, RL.nil _ _ _ _, Below.refl _ _, fun a ha => by cases ha; exact HLT.out⟩
          subst e1
          subst e2
          clear hc hm
          go_wp2_with fail
          go_loopw [4, 5, 28] (fun x y v wr => ∃ (i : Nat) (vb : Value) (p : Option Addr) (r cr : Nat), i ≤ m ∧ v = .int .u8 (i : Int) ∧ vb = x ∧ y = .slice p r cr ∧ DS w 1 B i vb p r cr wr) (fun _ _ v _ => m - (intOf v).toNat)
          case atStart => exact ⟨0, _, some ⟨b, off, none⟩, 0, 0, Nat.zero_le _, rfl, rfl, rfl, H1.out⟩
          case round =>
            clear H1
            obtain ⟨i, vb, p, r, cr, hi, rfl, rfl, rfl, hX⟩ := hrel
            have HX := Lib.hid hX
            clear hX
            by_cases hli : i < m
            · as_aux_lemma =>
              have i1 : (i : Int) < (m : Int) := by omega
              have HI : Hid (i < m ∧ m ≤ 16) := Lib.hid ⟨hli, H16.out⟩
              obtain ⟨i2, hi2⟩ : ∃ x, i + 1 = x := ⟨_, rfl⟩
              have iw : IntKind.u8.wrap ((i : Int) + 1) = (i2 : Int) := by have := H16.out; simp [IntKind.wrap, IntKind.bits, IntKind.signed]; omega
              have iw2 : ((i : Int) + 1) % 256 = (i2 : Int) := by have := H16.out; omega
              have HI2 := Lib.hid hi2
              clear hi hli hi2
              go_wp2_with fail
              refine (field_any p r cr (fun t => B (ps B i + t)) wr HX.out.b HX.out.c.1 HX.out.c.2).mono ?_
              rintro e w1 ⟨hb1, hF⟩
              rcases hF with ⟨hbad, rfl⟩ | ⟨hg1, hg2, oc, cc, p', cr', rfl, q1, q2, q3, q4, q5, q6, q7, q8, q9⟩
              · have HBD : Hid (1 < ps B (i + 1)) := Lib.hid (by
                  rw [ps_succ]
                  have h3 := HX.out.n
                  have h4 : fl B i = 256 * B (ps B i + 0) + B (ps B i + 1) := rfl
                  rcases hbad with h5 | h5
                  · omega
                  · rw [← h4] at h5; omega)
                have HO := Lib.hid (HX.out.o.trans (hb1.mono HX.out.o.size))
                clear hbad hb1
                go_wp2_with fail
                go_ret2
                exact ⟨HO.out, .inr (.inr ⟨H10.out, not_fits (by rw [HM.out]; exact HI.out.1) HBD.out, rfl⟩)⟩
              · obtain ⟨s, hs⟩ : ∃ s, fl B i = s := ⟨_, rfl⟩
                have h4 : 256 * B (ps B i + 0) + B (ps B i + 1) = s := hs
                rw [h4] at hg2 q1 q2 q3 q6 q7 ⊢
                have HS := Lib.hid hs
                have H1 : Hid (RL w1 w.heap.size vb i (fl B) (dG B) ∧ Below w.heap.size w w1) := Lib.hid ⟨HX.out.l.later hb1, HX.out.o.trans (hb1.mono HX.out.o.size)⟩
                have HC : Hid (Bytes w1 oc s (fun t => B (ps B i + (2 + t))) ∧ (oc = none → s = 0) ∧ s ≤ cc ∧ cc ≤ maxLen ∧ ∀ a, oc = some a → 0 < s → vb.ownBlock ≠ some a.block) := Lib.hid ⟨q1, q2, q3, q4, fun a ha _ e => by
                  have h8 := q5 a ha
                  have h9 := (HX.out.l.lt _ e).2
                  omega⟩
                have HR : Hid (Bytes w1 p' (r - 2 - s) (fun t => B (ps B i + (2 + s + t))) ∧ r - 2 - s ≤ cr' ∧ cr' ≤ maxLen ∧ ps B (i + 1) + (r - 2 - s) = 1) := Lib.hid ⟨q6, q7, q8, by rw [ps_succ, hs]; have := HX.out.n; omega⟩
                have HQ : Hid (∀ a, p' = some a → a.block < w.heap.size) := Lib.hid fun a ha => by
                  obtain ⟨a0, h8, h9⟩ := q9 a ha
                  rw [← h9]; exact HX.out.q a0 h8
                obtain ⟨r', hr'⟩ : ∃ r', r - 2 - s = r' := ⟨_, rfl⟩
                rw [hr'] at HR ⊢
                clear hg1 hg2 q1 q2 q3 q4 q5 q6 q7 q8 q9 hs h4 hr' hb1 HX
                go_wp2_with (first
                  | (refine wpList_appR rfl (.tmp 39) (.tmp 41) rfl w.heap.size vb i (fl B) (dG B) s (fun t => B (ps B i + (2 + t))) oc cc w1 rfl H1.out.1 rfl HC.out.1 HC.out.2.2.1 HC.out.2.2.2.1 HC.out.2.1 HC.out.2.2.2.2 HS.out (fun t _ => by show B (ps B i + 2 + t) = _; rw [Nat.add_assoc]) (by have := HI.out; omega) H1.out.2.size ?_; intro v9 w9 hR9 hb9; have H9 : Hid (RL w9 w.heap.size v9 (i + 1) (fl B) (dG B) ∧ Below w.heap.size w1 w9) := Lib.hid ⟨hR9, hb9⟩; clear hR9 hb9))
                go_roundw
                case rel => exact ⟨i2, _, p', r', cr', by have := HI.out; have := HI2.out; omega, by first | rfl | go_num, rfl, rfl, by
                  rw [← HI2.out]
                  refine ⟨fun k hk => ?_, HR.out.2.2.2, ⟨HR.out.2.1, HR.out.2.2.1⟩, H9.out.1, H1.out.2.trans H9.out.2, HQ.out⟩
                  obtain ⟨a1, b', off', a2, a3⟩ := HR.out.1 k hk
                  have e9 : ps B (i + 1) + k = ps B i + (2 + s + k) := by rw [ps_succ, HS.out]; omega
                  refine ⟨by show B (ps B (i + 1) + k) < 256; rw [e9]; exact a1, b', off', a2, ?_⟩
                  show w9.cell? ⟨b', off' + k, none⟩ = some (.int .u8 (B (ps B (i + 1) + k) : Nat))
                  rw [e9]
                  exact cell_belowB (w := w1) (w' := w9) H9.out.2 (HQ.out ⟨b', off', none⟩ a2) a3⟩
                case measure => have := HI.out; have := HI2.out; simp [intOf] <;> omega
            · obtain rfl : i = m := by omega
              obtain ⟨oa, ca, hva, hca, hma, hla, hna⟩ := HX.out.l.lbs
              subst hva
              have HL : Hid (LBs wr oa i (fl B) (dG B) ∧ (oa = none → i = 0) ∧ i ≤ ca ∧ ca ≤ maxLen) := Lib.hid ⟨hla, hna, hca, hma⟩
              have HN : Hid (ps B i + r = 1) := Lib.hid HX.out.n
              have HO := Lib.hid HX.out.o
              have hrl : (r : Int) ≤ 9223372036854775807 := by have := HX.out.n; have := HNC.out; omega
              clear hi hli hla hna hca hma HX
              by_cases hr0 : 0 < r
              · have k1 : (0 : Int) < (r : Int) := by omega
                have HR0 := Lib.hid hr0
                go_wp2_with fail
                go_ret2
                exact ⟨HO.out, .inr (.inr ⟨H10.out, fun h => by have h4 := h.2.2.2; rw [HM.out] at h4; have := HN.out; have := HR0.out; omega, rfl⟩)⟩
              · have HR0 : Hid (r = 0) := Lib.hid (by omega)
                obtain rfl : r = 0 := by omega
                clear hr0
                go_wp2_with fail
                go_ret2
                unfold DecA
                refine ⟨HO.out, .inl ⟨⟨by have := HNC.out; omega, H10.out, by rw [HM.out]; exact H16.out, by rw [HM.out]; have := HN.out; omega⟩, ?_⟩⟩
                rw [HM.out]
                exact ⟨oa, ca, rfl, HL.out.1, HL.out.2.1, HL.out.2.2.1, HL.out.2.2.2⟩
        · have H1 : Hid (DS w n B 0 (.slice none 0 0) (some ⟨b, off + 1, none⟩) (n - 1) (cap - 1) w) := Lib.hid ⟨fun k hk => by
            obtain ⟨a1, b', off', a2, a3⟩ := HB.out (1 + k) (by omega)
            cases a2
            exact ⟨a1, b, off + 1, rfl, by rw [Nat.add_assoc]; exact a3⟩, by show 1 + (n - 1) = n; omega, ⟨by omega, by unfold maxLen; omega⟩, RL.nil _ _ _ _, Below.refl _ _, fun a ha => by cases ha; exact HLT.out⟩
          clear hc hm
          go_wp2_with fail
          go_loopw [4, 5, 28] (fun x y v wr => ∃ (i : Nat) (vb : Value) (p : Option Addr) (r cr : Nat), i ≤ m ∧ v = .int .u8 (i : Int) ∧ vb = x ∧ y = .slice p r cr ∧ DS w n B i vb p r cr wr) (fun _ _ v _ => m - (intOf v).toNat)
          case atStart => exact ⟨0, _, some ⟨b, off + 1, none⟩, n - 1, cap - 1, Nat.zero_le _, rfl, rfl, rfl, H1.out⟩
          case round =>
            clear H1
            obtain ⟨i, vb, p, r, cr, hi, rfl, rfl, rfl, hX⟩ := hrel
            have HX := Lib.hid hX
            clear hX
            by_cases hli : i < m
            · as_aux_lemma =>
              have i1 : (i : Int) < (m : Int) := by omega
              have HI : Hid (i < m ∧ m ≤ 16) := Lib.hid ⟨hli, H16.out⟩
              obtain ⟨i2, hi2⟩ : ∃ x, i + 1 = x := ⟨_, rfl⟩
              have iw : IntKind.u8.wrap ((i : Int) + 1) = (i2 : Int) := by have := H16.out; simp [IntKind.wrap, IntKind.bits, IntKind.signed]; omega
              have iw2 : ((i : Int) + 1) % 256 = (i2 : Int) := by have := H16.out; omega
              have HI2 := Lib.hid hi2
              clear hi hli hi2
              go_wp2_with fail
              refine (field_any p r cr (fun t => B (ps B i + t)) wr HX.out.b HX.out.c.1 HX.out.c.2).mono ?_
              rintro e w1 ⟨hb1, hF⟩
              rcases hF with ⟨hbad, rfl⟩ | ⟨hg1, hg2, oc, cc, p', cr', rfl, q1, q2, q3, q4, q5, q6, q7, q8, q9⟩
              · have HBD : Hid (n < ps B (i + 1)) := Lib.hid (by
                  rw [ps_succ]
                  have h3 := HX.out.n
                  have h4 : fl B i = 256 * B (ps B i + 0) + B (ps B i + 1) := rfl
                  rcases hbad with h5 | h5
                  · omega
                  · rw [← h4] at h5; omega)
                have HO := Lib.hid (HX.out.o.trans (hb1.mono HX.out.o.size))
                clear hbad hb1
                go_wp2_with fail
                go_ret2
                exact ⟨HO.out, .inr (.inr ⟨H10.out, not_fits (by rw [HM.out]; exact HI.out.1) HBD.out, rfl⟩)⟩
              · obtain ⟨s, hs⟩ : ∃ s, fl B i = s := ⟨_, rfl⟩
                have h4 : 256 * B (ps B i + 0) + B (ps B i + 1) = s := hs
                rw [h4] at hg2 q1 q2 q3 q6 q7 ⊢
                have HS := Lib.hid hs
                have H1 : Hid (RL w1 w.heap.size vb i (fl B) (dG B) ∧ Below w.heap.size w w1) := Lib.hid ⟨HX.out.l.later hb1, HX.out.o.trans (hb1.mono HX.out.o.size)⟩
                have HC : Hid (Bytes w1 oc s (fun t => B (ps B i + (2 + t))) ∧ (oc = none → s = 0) ∧ s ≤ cc ∧ cc ≤ maxLen ∧ ∀ a, oc = some a → 0 < s → vb.ownBlock ≠ some a.block) := Lib.hid ⟨q1, q2, q3, q4, fun a ha _ e => by
                  have h8 := q5 a ha
                  have h9 := (HX.out.l.lt _ e).2
                  omega⟩
                have HR : Hid (Bytes w1 p' (r - 2 - s) (fun t => B (ps B i + (2 + s + t))) ∧ r - 2 - s ≤ cr' ∧ cr' ≤ maxLen ∧ ps B (i + 1) + (r - 2 - s) = n) := Lib.hid ⟨q6, q7, q8, by rw [ps_succ, hs]; have := HX.out.n; omega⟩
                have HQ : Hid (∀ a, p' = some a → a.block < w.heap.size) := Lib.hid fun a ha => by
                  obtain ⟨a0, h8, h9⟩ := q9 a ha
                  rw [← h9]; exact HX.out.q a0 h8
                obtain ⟨r', hr'⟩ : ∃ r', r - 2 - s = r' := ⟨_, rfl⟩
                rw [hr'] at HR ⊢
                clear hg1 hg2 q1 q2 q3 q4 q5 q6 q7 q8 q9 hs h4 hr' hb1 HX
                go_wp2_with (first
                  | (refine wpList_appR rfl (.tmp 39) (.tmp 41) rfl w.heap.size vb i (fl B) (dG B) s (fun t => B (ps B i + (2 + t))) oc cc w1 rfl H1.out.1 rfl HC.out.1 HC.out.2.2.1 HC.out.2.2.2.1 HC.out.2.1 HC.out.2.2.2.2 HS.out (fun t _ => by show B (ps B i + 2 + t) = _; rw [Nat.add_assoc]) (by have := HI.out; omega) H1.out.2.size ?_; intro v9 w9 hR9 hb9; have H9 : Hid (RL w9 w.heap.size v9 (i + 1) (fl B) (dG B) ∧ Below w.heap.size w1 w9) := Lib.hid ⟨hR9, hb9⟩; clear hR9 hb9))
                go_roundw
                case rel => exact ⟨i2, _, p', r', cr', by have := HI.out; have := HI2.out; omega, by first | rfl | go_num, rfl, rfl, by
                  rw [← HI2.out]
                  refine ⟨fun k hk => ?_, HR.out.2.2.2, ⟨HR.out.2.1, HR.out.2.2.1⟩, H9.out.1, H1.out.2.trans H9.out.2, HQ.out⟩
                  obtain ⟨a1, b', off', a2, a3⟩ := HR.out.1 k hk
                  have e9 : ps B (i + 1) + k = ps B i + (2 + s + k) := by rw [ps_succ, HS.out]; omega
                  refine ⟨by show B (ps B (i + 1) + k) < 256; rw [e9]; exact a1, b', off', a2, ?_⟩
                  show w9.cell? ⟨b', off' + k, none⟩ = some (.int .u8 (B (ps B (i + 1) + k) : Nat))
                  rw [e9]
                  exact cell_belowB (w := w1) (w' := w9) H9.out.2 (HQ.out ⟨b', off', none⟩ a2) a3⟩
                case measure => have := HI.out; have := HI2.out; simp [intOf] <;> omega
            · obtain rfl : i = m := by omega
              obtain ⟨oa, ca, hva, hca, hma, hla, hna⟩ := HX.out.l.lbs
              subst hva
              have HL : Hid (LBs wr oa i (fl B) (dG B) ∧ (oa = none → i = 0) ∧ i ≤ ca ∧ ca ≤ maxLen) := Lib.hid ⟨hla, hna, hca, hma⟩
              have HN : Hid (ps B i + r = n) := Lib.hid HX.out.n
              have HO := Lib.hid HX.out.o
              have hrl : (r : Int) ≤ 9223372036854775807 := by have := HX.out.n; have := HNC.out; omega
              clear hi hli hla hna hca hma HX
              by_cases hr0 : 0 < r
              · have k1 : (0 : Int) < (r : Int) := by omega
                have HR0 := Lib.hid hr0
                go_wp2_with fail
                go_ret2
                exact ⟨HO.out, .inr (.inr ⟨H10.out, fun h => by have h4 := h.2.2.2; rw [HM.out] at h4; have := HN.out; have := HR0.out; omega, rfl⟩)⟩
              · have HR0 : Hid (r = 0) := Lib.hid (by omega)
                obtain rfl : r = 0 := by omega
                clear hr0
                go_wp2_with fail
                go_ret2
                unfold DecA
                refine ⟨HO.out, .inl ⟨⟨by have := HNC.out; omega, H10.out, by rw [HM.out]; exact H16.out, by rw [HM.out]; have := HN.out; omega⟩, ?_⟩⟩
                rw [HM.out]
                exact ⟨oa, ca, rfl, HL.out.1, HL.out.2.1, HL.out.2.2.1, HL.out.2.2.2⟩
end Go.Proofs.YtmabhjifldafaaaDoor
