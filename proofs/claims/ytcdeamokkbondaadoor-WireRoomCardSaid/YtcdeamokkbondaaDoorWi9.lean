/- What room fields have. -/
import Derived.Test.YtcdeamokkbondaaDoorWi8
import Derived.Test.YtcdeamokkbondaaDoorU16
namespace Go.Proofs.YtcdeamokkbondaaDoor
set_option linter.unusedVariables false
set_option linter.unusedSimpArgs false
open Go.RowKit

theorem wl_le {L : Nat → Nat} (h : ∀ i, L i ≤ 1099) : ∀ i, wl L i ≤ 1 + 1101 * i
  | 0 => by simp [wl]
  | i + 1 => by have := wl_le h i; have := h i; show wl L i + 2 + L i ≤ _; omega
/-- While rows are made. -/
structure RM (w0 : World) (i : Nat) (vl : Value) (L : Nat → Nat) (wr : World) : Prop where
  l : RL wr w0.heap.size vl i L (fun _ _ => 0)
  o : Below w0.heap.size w0 wr
set_option maxRecDepth 100000 in
set_option maxHeartbeats 8000000 in
theorem room_any (ob : Option Addr) (n cap : Nat) (f : Nat → Nat) (w : World) (hB : U16s w ob n f) (hn : n ≤ maxLen) (hg : Handle w) :
    Calls Tryd.prog 5 #[.slice ob n cap] w fun e w' => e = .returned (.bool true) ∧ Below w.heap.size w w' := by
  unfold maxLen at hn
  have hn0 : (n : Int) ≤ 9223372036854775807 := by omega
  have HG := Lib.hid hg
  have HB := Lib.hid hB
  clear hg hB
  go_enter Tryd.func5, Tryd.ntmps5
  by_cases h30 : 30 < n
  · have h1 : (30 : Int) < (n : Int) := by omega
    clear h30
    go_wp2_with fail
    refine (wire_sure w HG.out).mono ?_
    rintro e w1 ⟨rfl, hb1⟩
    go_wp2_with fail
    go_ret
    exact ⟨rfl, hb1⟩
  · have h1 : ¬ (30 : Int) < (n : Int) := by omega
    have H30 : Hid (n ≤ 30) := Lib.hid (by omega)
    obtain ⟨L, hL⟩ : ∃ L : Nat → Nat, (fun i => f i % 1100) = L := ⟨_, rfl⟩
    have HL : Hid (∀ i, f i % 1100 = L i) := Lib.hid fun i => congrFun hL i
    have HLM : Hid (∀ i, L i ≤ 1099) := Lib.hid fun i => by rw [← HL.out i]; omega
    have H1 : Hid (RM w 0 (.slice none 0 0) L w) := Lib.hid ⟨RL.nil _ _ _ _, Below.refl _ _⟩
    clear h30 hn hL
    go_wp2_with fail
    go_loopw [3, 4, 5] (fun x y v wr => ∃ (i s : Nat) (vl : Value), i ≤ n ∧ v = .int .i64 (i : Int) ∧ vl = x ∧ y = .int .i64 (s : Int) ∧ wl L i = s ∧ RM w i vl L wr) (fun _ _ v _ => n - (intOf v).toNat)
    case atStart => exact ⟨0, 1, _, Nat.zero_le _, rfl, rfl, rfl, rfl, H1.out⟩
    case round =>
      clear H1
      obtain ⟨i, s, vl, hi, rfl, rfl, rfl, hs, hX⟩ := hrel
      have HX := Lib.hid hX
      have HS := Lib.hid hs
      clear hX hs
      by_cases hli : i < n
      · as_aux_lemma =>
        have i1 : (i : Int) < (n : Int) := by omega
        have i0 : (0 : Int) ≤ (i : Int) := by omega
        have HI : Hid (i < n) := Lib.hid hli
        obtain ⟨i2, hi2⟩ : ∃ z, i + 1 = z := ⟨_, rfl⟩
        have iw : IntKind.i64.wrap ((i : Int) + 1) = (i2 : Int) := by have := H30.out; rw [IntWalk.i64_in _ (by omega)]; omega
        have HI2 := Lib.hid hi2
        obtain ⟨hf6, b, off, rfl, hc⟩ := HB.out.below HX.out.o i hli
        obtain ⟨x, hx⟩ : ∃ z, f i = z := ⟨_, rfl⟩
        obtain ⟨k, hk⟩ : ∃ z, L i = z := ⟨_, rfl⟩
        have hk2 : x % 1100 = k := by rw [← hx, ← hk]; exact HL.out i
        rw [hx] at hf6 hc
        have hk3 : k ≤ 1099 := by omega
        have hsl : s ≤ 40000 := by have h3 := wl_le HLM.out i; have := HS.out; have := H30.out; omega
        obtain ⟨s2, hs2⟩ : ∃ z, s + 2 = z := ⟨_, rfl⟩
        obtain ⟨s3, hs3⟩ : ∃ z, s2 + k = z := ⟨_, rfl⟩
        have HK : Hid (L i = k ∧ k ≤ 1099 ∧ wl L (i + 1) = s3) := Lib.hid ⟨hk, hk3, by show wl L i + 2 + L i = s3; rw [HS.out, hk]; omega⟩
        have c0 : wr.cell? ⟨b, off + i, none⟩ = some (.int .u16 (x : Nat)) := hc
        have k0 : IntKind.i64.wrap (x : Int) = (x : Int) := IntWalk.i64_in _ (by omega)
        have k1 : (x : Int) % 1100 = (k : Int) := by omega
        have k2 : IntKind.i64.wrap (k : Int) = (k : Int) := IntWalk.i64_in _ (by omega)
        have k3 : (s : Int) + 2 = (s2 : Int) := by omega
        have k4 : IntKind.i64.wrap (s2 : Int) = (s2 : Int) := IntWalk.i64_in _ (by omega)
        have k5 : (s2 : Int) + (k : Int) = (s3 : Int) := by omega
        have k6 : IntKind.i64.wrap (s3 : Int) = (s3 : Int) := IntWalk.i64_in _ (by omega)
        have k7 : (x : Int).tmod 1100 = (k : Int) := by rw [Int.tmod_eq_emod_of_nonneg (by omega)]; exact k1
        clear hc hx hk hk2 hs2 hs3 hli hi hi2
        go_wp2_with (first
          | (refine wpList_mk rfl _ _ rfl k rfl rfl (by have := HK.out; omega) ?_
             obtain ⟨w1, hw1⟩ : ∃ z, wr.alloc (.cells (rowC k (fun _ => 0)).toArray 5) = z := ⟨_, rfl⟩
             have hbl : Below wr.heap.size wr w1 := by rw [← hw1]; exact (Below.refl _ _).alloc (Nat.le_refl _) _
             have hrw : Row w1 wr.heap.size k (fun _ => 0) := by rw [← hw1]; exact Blk.new wr _ _
             have H1 : Hid (RL w1 w.heap.size vl i L (fun _ _ => 0) ∧ Below w.heap.size w w1) := Lib.hid ⟨HX.out.l.later hbl, HX.out.o.trans (hbl.mono HX.out.o.size)⟩
             have HR : Hid (Bytes w1 (some ⟨wr.heap.size, 0, none⟩) k (fun _ => 0)) := Lib.hid (hrw.bytes (fun _ _ => by omega))
             rw [hw1]
             clear hbl hrw hw1)
          | (refine wpList_appR rfl (.tmp 25) (.tmp 28) rfl w.heap.size vl i L (fun _ _ => 0) k (fun _ => 0) (some ⟨wr.heap.size, 0, none⟩) k w1 rfl H1.out.1 rfl HR.out (Nat.le_refl _) (by have := HK.out; unfold maxLen; omega) (fun e => by cases e)
              (fun ad ha _ e => by cases ha; have h9 := (HX.out.l.lt _ e).2; exact absurd h9 (Nat.lt_irrefl _)) HK.out.1 (fun t _ => rfl) (by have := HI.out; have := H30.out; omega) H1.out.2.size ?_
             intro v9 w9 hR9 hb9
             have H9 : Hid (RL w9 w.heap.size v9 (i + 1) L (fun _ _ => 0) ∧ Below w.heap.size w1 w9) := Lib.hid ⟨hR9, hb9⟩
             clear hR9 hb9))
        go_roundw
        case rel => exact ⟨i2, s3, _, by have := HI.out; have := HI2.out; omega, by first | rfl | go_num, rfl, by first | rfl | go_num, by rw [← HI2.out]; exact HK.out.2.2, by
          rw [← HI2.out]; exact ⟨H9.out.1, H1.out.2.trans H9.out.2⟩⟩
        case measure => have := HI.out; have := HI2.out; simp [intOf] <;> omega
      · obtain rfl : i = n := by omega
        obtain ⟨oa, ca, hva, hca, hma, hla, hna⟩ := HX.out.l.lbs
        subst hva
        have HO := Lib.hid HX.out.o
        have HGR : Hid (Handle wr) := Lib.hid (HG.out.later HX.out.o)
        have hsl : s ≤ 40000 := by have h3 := wl_le HLM.out i; have := HS.out; have := H30.out; omega
        have hq30 : i ≤ 30 := H30.out
        have HENC := Lib.hid (enc_any oa i ca L (fun _ _ => 0) wr hla (by unfold maxLen; omega) (fun j _ => by have := HLM.out j; omega))
        clear hi hli hla hna hca hma HX
        go_wp2_with fail
        refine HENC.out.mono ?_
        clear HENC
        rintro e w1 ⟨hb1, he1⟩
        rw [HS.out] at he1
        have H2 : Hid (Below w.heap.size w w1 ∧ Handle w1) := Lib.hid (by
          have h := HO.out.trans (hb1.mono HO.out.size)
          exact ⟨h, HG.out.later h⟩)
        clear hb1
        rcases he1 with ⟨hq, hw, o, c, rfl, hB1, hcc, hmm⟩ | ⟨hbad, rfl⟩
        · have g1 : ¬ (16 : Int) < (i : Int) := by omega
          have g2 : ¬ (1024 : Int) < (s : Int) := by omega
          obtain ⟨h0, b, off, e0, hc0⟩ := hB1 0 (by have h5 := wl_pos L i; rw [HS.out] at h5; omega)
          cases e0
          rw [wf_head] at hc0
          have c0 : w1.cell? ⟨b, off, none⟩ = some (.int .u8 (i : Nat)) := hc0
          have h5 : 1 ≤ s := by have h5 := wl_pos L i; rw [HS.out] at h5; exact h5
          have g3 : 0 < s := by omega
          have g4 : (0 : Int) < (s : Int) := by omega
          have g5 : IntKind.i64.wrap (i : Int) = (i : Int) := IntWalk.i64_in _ (by omega)
          clear hB1 hc0 h0 hcc hmm hq hw
          go_wp2_with fail
          refine (wire_sure w1 H2.out.2).mono ?_
          rintro e w2 ⟨rfl, hb2⟩
          go_wp2_with fail
          go_ret
          exact ⟨rfl, H2.out.1.trans (hb2.mono H2.out.1.size)⟩
        · have HBAD := Lib.hid hbad
          by_cases hq : 16 < i
          · have g1 : (16 : Int) < (i : Int) := by omega
            clear hbad hq
            go_wp2_with fail
            refine (num_err 3 w1 H2.out.2).mono ?_
            rintro e w2 ⟨rfl, hb2⟩
            have H3 : Hid (Below w.heap.size w w2) := Lib.hid (H2.out.1.trans (hb2.mono H2.out.1.size))
            clear hb2
            go_wp2_with fail
            refine (wire_sure w2 (HG.out.later H3.out)).mono ?_
            rintro e w3 ⟨rfl, hb3⟩
            go_wp2_with fail
            go_ret
            exact ⟨rfl, H3.out.trans (hb3.mono H3.out.size)⟩
          · have g1 : ¬ (16 : Int) < (i : Int) := by omega
            have g2 : (1024 : Int) < (s : Int) := by omega
            clear hbad hq
            go_wp2_with fail
            refine (num_err 3 w1 H2.out.2).mono ?_
            rintro e w2 ⟨rfl, hb2⟩
            have H3 : Hid (Below w.heap.size w w2) := Lib.hid (H2.out.1.trans (hb2.mono H2.out.1.size))
            clear hb2
            go_wp2_with fail
            refine (wire_sure w2 (HG.out.later H3.out)).mono ?_
            rintro e w3 ⟨rfl, hb3⟩
            go_wp2_with fail
            go_ret
            exact ⟨rfl, H3.out.trans (hb3.mono H3.out.size)⟩
end Go.Proofs.YtcdeamokkbondaaDoor
