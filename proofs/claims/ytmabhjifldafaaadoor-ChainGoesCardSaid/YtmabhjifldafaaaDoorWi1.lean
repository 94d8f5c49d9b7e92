/- Fields as bytes, as the program makes them. -/
import Derived.Test.YtmabhjifldafaaaDoorWi0
namespace Go.Proofs.YtmabhjifldafaaaDoor
set_option linter.unusedVariables false
set_option linter.unusedSimpArgs false
open Go.RowKit

theorem Grow.one {w : World} {x base : Nat} (hb : base ≤ w.heap.size) : Grow (w.alloc (.cells #[.int .u8 (x : Nat)] 5)) base (.slice (some ⟨w.heap.size, 0, none⟩) 1 1) 1 (fun _ => x) :=
  ⟨rowC_len _ _, .inr ⟨w.heap.size, 1, #[.int .u8 (x : Nat)], rfl, hb, Blk.new w _ _, Nat.le_refl _, by unfold maxLen; omega, rfl, rfl⟩⟩
/-- What is answered for fields. -/
def EncA (q : Nat) (L : Nat → Nat) (G : Nat → Nat → Nat) (ok bad : Value) (w0 : World) (e : Ending) (w' : World) : Prop :=
  Below w0.heap.size w0 w' ∧ ((q ≤ 16 ∧ wl L q ≤ 1024 ∧ ∃ o c, e = .returned (.tuple #[.slice (some o) (wl L q) c, ok]) ∧ Bytes w' (some o) (wl L q) (wf q L G q) ∧ wl L q ≤ c ∧ c ≤ maxLen) ∨
    ((16 < q ∨ 1024 < wl L q) ∧ e = .returned (.tuple #[.slice none 0 0, bad])))
set_option maxRecDepth 100000 in
set_option maxHeartbeats 4000000 in
theorem enc_any (op : Option Addr) (q cq : Nat) (L : Nat → Nat) (G : Nat → Nat → Nat) (w : World) (hL : LBs w op q L G) (hq : q ≤ maxLen) (hl : ∀ i, i < q → L i ≤ 100000) :
    Calls Tryd.prog 66 #[.slice op q cq] w (EncA q L G .nilIface (.iface 118 (.int .i64 3)) w) := by
  unfold maxLen at hq
  have HLB : Hid (∀ w', Below w.heap.size w w' → LBs w' op q L G) := Lib.hid fun w' h i hi => by
    obtain ⟨b, off, od, cp, h1, h2, h3, h4, h5, h6⟩ := hL i hi
    exact ⟨b, off, od, cp, h1, cell_below h h2, h3, h4.later h, h5, h6⟩
  have HLL := Lib.hid hl
  have hq0 : (q : Int) ≤ 9223372036854775807 := by omega
  clear hL hl
  go_enter Tryd.func66, Tryd.ntmps66
  by_cases h16 : 16 < q
  · have h1 : (16 : Int) < (q : Int) := by omega
    have H16 := Lib.hid h16
    clear h16
    go_wp2_with fail
    go_ret2
    exact ⟨Below.refl _ _, .inr ⟨.inl H16.out, rfl⟩⟩
  · have h1 : ¬ (16 : Int) < (q : Int) := by omega
    have H16 : Hid (q ≤ 16) := Lib.hid (by omega)
    clear h16
    go_wp2_with fail
    go_loopw [4, 16] (fun s v wr => ∃ i sz : Nat, i ≤ q ∧ v = .int .i64 (i : Int) ∧ wl L i = sz ∧ s = .int .i64 (sz : Int) ∧ sz ≤ 1024 ∧ Below w.heap.size w wr) (fun _ v _ => q - (intOf v).toNat)
    case atStart => exact ⟨0, 1, Nat.zero_le _, rfl, rfl, rfl, by decide, Below.refl _ _⟩
    case round =>
      obtain ⟨i, sz, hi, rfl, hsz, rfl, hs, hX⟩ := hrel
      have HX := Lib.hid hX
      have HSZ : Hid (wl L i = sz ∧ sz ≤ 1024) := Lib.hid ⟨hsz, hs⟩
      clear hX
      by_cases hli : i < q
      · as_aux_lemma =>
        have i0 : (0 : Int) ≤ (i : Int) := by omega
        have i1 : (i : Int) < (q : Int) := by omega
        have HI : Hid (i < q ∧ q ≤ 16) := Lib.hid ⟨hli, H16.out⟩
        have iw : IntKind.i64.wrap ((i : Int) + 1) = ((i + 1 : Nat) : Int) := by have := H16.out; rw [IntWalk.i64_in _ (by omega)]; omega
        obtain ⟨lb, lo, od, cpi, hop, hc1, _, _, _, _⟩ := HLB.out _ HX.out i hli
        have hll := HLL.out i hli
        have hss : wl L (i + 1) = sz + 2 + L i := by show wl L i + 2 + L i = _; rw [hsz]
        obtain ⟨l, hlE⟩ : ∃ l, L i = l := ⟨_, rfl⟩
        rw [hlE] at hc1 hll hss
        obtain ⟨s2, hs2⟩ : ∃ x, sz + 2 + l = x := ⟨_, rfl⟩
        rw [hs2] at hss
        have HSS := Lib.hid hss
        have v1 : IntKind.i64.wrap (2 + (l : Int)) = 2 + (l : Int) := IntWalk.i64_in _ (by omega)
        have v2 : IntKind.i64.wrap ((sz : Int) + (2 + (l : Int))) = (s2 : Int) := by rw [IntWalk.i64_in _ (by omega)]; omega
        obtain ⟨i2, hi2⟩ : ∃ x, i + 1 = x := ⟨_, rfl⟩
        rw [hi2] at iw HSS
        have HI2 := Lib.hid hi2
        subst hop
        clear hi hli hlE hll hss hs2 hsz hs hi2
        by_cases h10 : 1024 < s2
        · have h2 : (1024 : Int) < (s2 : Int) := by omega
          have H10 := Lib.hid h10
          clear h10
          go_wp2_with fail
          go_ret2
          exact ⟨HX.out, .inr ⟨.inr (by have := wl_mono L (show i2 ≤ q by have := HI.out; have := HI2.out; omega); have := HSS.out; have := H10.out; omega), rfl⟩⟩
        · have h2 : ¬ (1024 : Int) < (s2 : Int) := by omega
          have H10 : Hid (s2 ≤ 1024) := Lib.hid (by omega)
          clear h10
          go_wp2_with fail
          go_roundw
          case rel => exact ⟨i2, s2, by have := HI.out; have := HI2.out; omega, by first | rfl | go_num, HSS.out, rfl, H10.out, HX.out⟩
          case measure => have := HI.out; have := HI2.out; simp [intOf] <;> omega
      · obtain rfl : i = q := by omega
        have q1 : (i : Int) % 256 = (i : Int) := by have := H16.out; omega
        have q2 : IntKind.u8.wrap (i : Int) = (i : Int) := by have := H16.out; simp [IntKind.wrap, IntKind.bits, IntKind.signed]; omega
        have H2 : Hid (JG w (.slice (some ⟨wr.heap.size, 0, none⟩) 1 1) (wl L 0) (wf i L G 0) (wr.alloc (.cells #[.int .u8 (i : Nat)] 5))) := Lib.hid ⟨Grow.one HX.out.size, HX.out.alloc HX.out.size _⟩
        clear hi hli hsz hs
        go_wp2_with fail
        clear q1 q2
        go_loopw [7, 35] (fun x v wr => ∃ (j : Nat) (vb : Value), j ≤ i ∧ v = .int .i64 (j : Int) ∧ vb = x ∧ JG w vb (wl L j) (wf i L G j) wr) (fun _ v _ => i - (intOf v).toNat)
        case atStart => exact ⟨0, _, Nat.zero_le _, rfl, rfl, H2.out⟩
        case round =>
          clear H2
          obtain ⟨j, vb, hj, rfl, rfl, hX⟩ := hrel
          have HY := Lib.hid hX
          clear hX
          by_cases hlj : j < i
          · as_aux_lemma =>
            have j0 : (0 : Int) ≤ (j : Int) := by omega
            have j1 : (j : Int) < (i : Int) := by omega
            have HJ : Hid (j < i ∧ i ≤ 16) := Lib.hid ⟨hlj, H16.out⟩
            obtain ⟨j2, hj2⟩ : ∃ x, j + 1 = x := ⟨_, rfl⟩
            have jw : IntKind.i64.wrap ((j : Int) + 1) = (j2 : Int) := by have := H16.out; rw [IntWalk.i64_in _ (by omega)]; omega
            obtain ⟨lb, lo, od, cpi, hop, hc0, hle, hby, hno, hcm⟩ := HLB.out _ (Below.refl _ w) j hlj
            have hlbl : lb < w.heap.size := by
              rcases Nat.lt_or_ge lb w.heap.size with h' | h'
              · exact h'
              · simp [World.cell?, Array.getElem?_eq_none h'] at hc0
            have hss : wl L (j + 1) = wl L j + 2 + L j := rfl
            have hff : wf i L G (j + 1) = catF (wl L j + 2) (catF (wl L j) (wf i L G j) (two (L j / 256) (L j % 256))) (G j) := rfl
            have hmw := wl_mono L (show j + 1 ≤ i by omega)
            have hwi := HSZ.out
            obtain ⟨l, hlE⟩ : ∃ l, L j = l := ⟨_, rfl⟩
            obtain ⟨g, hgE⟩ : ∃ g, G j = g := ⟨_, rfl⟩
            obtain ⟨m, hmE⟩ : ∃ m, wl L j = m := ⟨_, rfl⟩
            obtain ⟨f, hfE⟩ : ∃ f, wf i L G j = f := ⟨_, rfl⟩
            rw [hlE] at hc0 hle hby hno
            rw [hgE] at hby
            rw [hlE, hmE, hfE, hgE, hj2] at hff
            have HY2 : Hid (JG w vb m f wr) := Lib.hid (hmE ▸ hfE ▸ HY.out)
            have hl10 : l ≤ 1024 ∧ m + 2 + l ≤ 1024 := by rw [hss] at hmw; omega
            rw [hlE, hmE, hj2] at hss
            have HLL2 : Hid (l ≤ 1024 ∧ m + 2 + l ≤ 1024) := Lib.hid hl10
            have HSS := Lib.hid hss
            have HFF := Lib.hid hff
            have HJ2 := Lib.hid hj2
            have HBY : Hid (∀ w', Below w.heap.size w w' → Bytes w' od l g) := Lib.hid fun w' h => hby.later h
            have HNO := Lib.hid hno
            have hc1 : wr.cell? ⟨lb, lo + j, none⟩ = some (.slice od l cpi) := cell_belowB HY.out.o hlbl hc0
            obtain ⟨h, hh⟩ : ∃ h, l / 256 = h := ⟨_, rfl⟩
            obtain ⟨r, hr⟩ : ∃ r, l % 256 = r := ⟨_, rfl⟩
            have a1 : (l : Int) / 256 = (h : Int) := by omega
            have a2 : (h : Int) % 256 = (h : Int) := by omega
            have a3 : (l : Int) % 256 = (r : Int) := by omega
            have a4 : IntKind.u8.wrap (h : Int) = (h : Int) := by simp [IntKind.wrap, IntKind.bits, IntKind.signed]; omega
            have a5 : IntKind.u8.wrap (l : Int) = (r : Int) := by simp [IntKind.wrap, IntKind.bits, IntKind.signed]; omega
            have a6 : IntKind.i64.wrap (h : Int) = (h : Int) := IntWalk.i64_in _ (by omega)
            have a7 : (l : Int) ≤ 9223372036854775807 := by omega
            have HHR : Hid (h < 256 ∧ r < 256) := Lib.hid (by omega)
            rw [hh, hr] at HFF
            have HA : Hid (JG w vb m f (wr.alloc (.cells #[.int .u8 (h : Int), .int .u8 (r : Int)] 5))) := Lib.hid (HY2.out.later ((Below.refl _ _).alloc (Nat.le_refl _) _))
            subst hop
            clear hc0 hle hby hno hcm hlbl hlE hgE hmE hfE hss hff hmw hwi hl10 hh hr hj hlj hj2 HY
            go_wp2_with (first
              | (refine wpList_appO rfl (.tmp 39) (.tmp 47) rfl w.heap.size vb m 2 2 (some ⟨wr.heap.size, 0, none⟩) f (two h r) (wr.alloc (.cells #[.int .u8 (h : Int), .int .u8 (r : Int)] 5)) rfl HA.out.g rfl (fun h => by cases h) (ob2 HHR.out.1 HHR.out.2) (by have := HLL2.out; omega) HA.out.o.size ?_; intro v6 w6 hG6 hg6 hob6; have H6 := Lib.hid (HA.out.grew hg6 hG6); clear hG6 hg6 hob6 HA HY2 hc1)
              | (refine wpList_appO rfl (.tmp 49) (.tmp 50) rfl w.heap.size v6 (m + 2) l cpi od (catF m f (two h r)) g w6 rfl H6.out.g rfl HNO.out (HBY.out _ H6.out.o) (by have := HLL2.out; omega) H6.out.o.size ?_; intro v7 w7 hG7 hg7 hob7; have H7 := Lib.hid (H6.out.grew hg7 hG7); clear hG7 hg7 hob7 H6))
            go_roundw
            case rel => exact ⟨j2, _, by have := HJ.out; have := HJ2.out; omega, rfl, rfl, by rw [HSS.out, HFF.out]; exact H7.out⟩
            case measure => have := HJ.out; have := HJ2.out; simp [intOf] <;> omega
          · obtain rfl : j = i := by omega
            obtain ⟨o7, c7, hv7, hB7, hc7, hn7⟩ := HY.out.g.bytesC (wf_lt (by have := H16.out; omega) j (fun k hk => by have := HLL.out k hk; have h1 := wl_mono L (show k + 1 ≤ j by omega); have h2 : wl L (k + 1) = wl L k + 2 + L k := rfl; have := HSZ.out; omega) (fun k hk x hx => by
              obtain ⟨_, _, _, _, _, _, _, h4, _, _⟩ := HLB.out _ (Below.refl _ w) k hk
              exact (h4 x hx).1))
            subst hv7
            obtain ⟨a7, rfl⟩ : ∃ a, o7 = some a := by
              obtain ⟨_, b, off, e, _⟩ := hB7 0 (by have := wl_pos L j; omega)
              exact ⟨_, e⟩
            obtain ⟨cm7⟩ : c7 ≤ maxLen ∧ True := ⟨by
              rcases HY.out.g.2 with ⟨h, _⟩ | ⟨_, cap, _, h, _, _, _, hm, _⟩
              · cases h
              · cases h; exact hm, trivial⟩
            have HB7 := Lib.hid hB7
            have HC7 := Lib.hid (And.intro hc7 cm7)
            clear hB7 hc7 hn7 hj hlj
            go_wp2_with fail
            go_ret2
            exact ⟨HY.out.o, .inl ⟨H16.out, by have := HSZ.out; omega, a7, ⟨c7, rfl, HB7.out, HC7.out.1, HC7.out.2⟩⟩⟩
end Go.Proofs.YtmabhjifldafaaaDoor
