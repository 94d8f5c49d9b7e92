/- The record that begins a list of sectors. -/
import Derived.Test.YtfbbnffinlebbaaDoorFr3
namespace Go.Proofs.YtfbbnffinlebbaaDoor
set_option linter.unusedVariables false
set_option linter.unusedSimpArgs false
open Go.RowKit

theorem Grow.someN {w : World} {base n : Nat} {v : Value} {f : Nat → Nat} (h : Grow w base v n f) (h0 : 0 < n) (hf : ∀ i, i < n → f i < 256) :
    ∃ g cap, v = .slice (some ⟨g, 0, none⟩) n cap ∧ base ≤ g ∧ Bytes w (some ⟨g, 0, none⟩) n f ∧ n ≤ cap ∧ cap ≤ maxLen := by
  obtain ⟨oa, cap, hv, hB, _⟩ := h.bytes hf
  rcases h.2 with ⟨_, h3⟩ | ⟨g, cap', cur, h2, hb, _, h3, hm, _⟩
  · omega
  · rw [hv] at h2; cases h2; exact ⟨g, cap, hv, hb, hB, h3, hm⟩
/-- What Join answers. -/
def JoinR (q : Nat) (L : Nat → Nat) (G : Nat → Nat → Nat) (w0 : World) (e : Ending) (w' : World) : Prop :=
  Below w0.heap.size w0 w' ∧ ((JoinP q L G ∧ ∃ g, e = .returned (.tuple #[.int .u32 (seqF (G 0) : Nat), .slice (some ⟨g, 0, none⟩) (szF (G 0)) (szF (G 0)), .int .i64 (G 0 5 : Nat), .nilIface]) ∧ Bytes w' (some ⟨g, 0, none⟩) (szF (G 0)) (bodyF G)) ∨
    (¬ JoinP q L G ∧ e = .returned (.tuple #[.int .u32 0, .slice none 0 0, .int .i64 0, .iface 47 (.int .i64 4)])))
theorem JoinR.err {q : Nat} {L : Nat → Nat} {G : Nat → Nat → Nat} {w0 w' : World} (h : ¬ JoinP q L G) (hb : Below w0.heap.size w0 w') : JoinR q L G w0 (.returned (.tuple #[.int .u32 0, .slice none 0 0, .int .i64 0, .iface 47 (.int .i64 4)])) w' := ⟨hb, .inr ⟨h, rfl⟩⟩
theorem bodyF_next {G : Nat → Nat → Nat} {i : Nat} : ∀ j, j < 56 * i + 56 → catF (56 * i) (bodyF G) (fun k => G i (8 + k)) j = bodyF G j := fun j hj => by
  unfold catF
  by_cases e : j < 56 * i
  · rw [if_pos e]
  · rw [if_neg e]
    unfold bodyF
    rw [show j / 56 = i by omega, show j % 56 = j - 56 * i by omega]
theorem same_all {q : Nat} {L : Nat → Nat} {G : Nat → Nat → Nat} {s n : Nat} {B : Nat → Nat} (hL : ∀ i, i < q → L i = 64) (h : SameL q L (fun _ => 64) G (frF s n B)) : ∀ i, i < q → ∀ k, k < 64 → G i k = frF s n B i k := fun i hi k hk => (h i hi).2 k (by rw [hL i hi]; exact hk)
theorem all_same {q : Nat} {L : Nat → Nat} {G : Nat → Nat → Nat} {s n : Nat} {B : Nat → Nat} (hL : ∀ i, i < q → L i = 64) (h : ∀ i, i < q → ∀ k, k < 64 → G i k = frF s n B i k) : SameL q L (fun _ => 64) G (frF s n B) := fun i hi => ⟨hL i hi, fun k hk => h i hi k (by rw [hL i hi] at hk; exact hk)⟩
set_option maxRecDepth 100000 in
set_option maxHeartbeats 8000000 in
theorem join_any (op : Option Addr) (q cq : Nat) (L : Nat → Nat) (G : Nat → Nat → Nat) (w : World) (hA : LBs w op q L G) (hqc : q ≤ cq) (hcm : cq ≤ maxLen) :
    Calls Tryd.prog 10 #[.slice op q cq] w (JoinR q L G w) := by
  unfold maxLen at hcm
  have HA : Hid (∀ w', Below w.heap.size w w' → LBs w' op q L G) := Lib.hid fun w' h => hA.later h
  have HQ := Lib.hid (show q ≤ cq ∧ cq ≤ 9223372036854775807 from ⟨hqc, hcm⟩)
  have hqm : (q : Int) ≤ 9223372036854775807 := by omega
  clear hA hqc hcm
  by_cases h0 : q = 0
  · have HN : Hid (¬ JoinP q L G) := Lib.hid fun h => absurd h.some (by omega)
    subst h0
    go_enter Tryd.func10, Tryd.ntmps10
    go_wp2_with fail
    (try simp only [Exit.inBlock, Exit.then]); refine bodyPost_ret (results_tmp4 rfl _ _ _) rfl ?_
    exact .err HN.out (Below.refl _ _)
  have hq0 : 0 < q := by omega
  have z0 : ¬ (q : Int) = 0 := by omega
  have z1 : decide ((q : Int) = 0) = false := decide_eq_false z0
  have z2 : (0 : Int) < (q : Int) := by omega
  obtain ⟨b, off, od, cp, rfl, c0, hlc, hbd, hod, hcp⟩ := HA.out w (Below.refl _ _) 0 hq0
  rw [Nat.add_zero] at c0
  by_cases h64 : L 0 = 64
  rotate_left
  · have HN : Hid (¬ JoinP q L G) := Lib.hid fun h => h64 h.len0
    obtain ⟨l, hl⟩ : ∃ x, L 0 = x := ⟨_, rfl⟩
    rw [hl] at c0 h64 hlc hbd hod
    unfold maxLen at hcp
    have z3 : ¬ (l : Int) = 64 := by omega
    have z4 : decide ((l : Int) = 64) = false := decide_eq_false z3
    have z5 : ((l : Int) != 64) = true := by simpa using z3
    clear h0 h64 hbd hod hl
    go_enter Tryd.func10, Tryd.ntmps10
    go_wp2_with fail
    (try simp only [Exit.inBlock, Exit.then]); refine bodyPost_ret (results_tmp4 rfl _ _ _) rfl ?_
    exact .err HN.out (Below.refl _ _)
  rw [h64] at c0 hlc hbd hod
  have H64 := Lib.hid h64
  obtain ⟨_, sb, so, rfl, _⟩ := hbd 0 (by decide)
  obtain ⟨b5, _, _, e5, c5⟩ := hbd 5 (by decide)
  obtain ⟨b6, _, _, e6, c6⟩ := hbd 6 (by decide)
  obtain ⟨b7, _, _, e7, c7⟩ := hbd 7 (by decide)
  cases e5; cases e6; cases e7
  have HBD : Hid (∀ w', Below w.heap.size w w' → Bytes w' (some ⟨sb, so, none⟩) 64 (G 0)) := Lib.hid fun w' h => hbd.later h
  obtain ⟨x5, hx5⟩ : ∃ x, G 0 5 = x := ⟨_, rfl⟩
  obtain ⟨x6, hx6⟩ : ∃ x, G 0 6 = x := ⟨_, rfl⟩
  obtain ⟨x7, hx7⟩ : ∃ x, G 0 7 = x := ⟨_, rfl⟩
  obtain ⟨y6, hy6⟩ : ∃ x, x6 * 256 = x := ⟨_, rfl⟩
  obtain ⟨sz, hsz⟩ : ∃ x, y6 + x7 = x := ⟨_, rfl⟩
  rw [hx5] at b5 c5
  rw [hx6] at b6 c6
  rw [hx7] at b7 c7
  have hor := orI b6 b7 hy6 hsz
  have o1 : (x6 : Int) * 256 = (y6 : Int) := by omega
  have o2 : IntKind.i64.wrap (y6 : Int) = (y6 : Int) := IntWalk.i64_in _ (by omega)
  have o3 : IntKind.i64.wrap (x5 : Int) = (x5 : Int) := IntWalk.i64_in _ (by omega)
  have o4 : IntKind.i64.wrap (x6 : Int) = (x6 : Int) := IntWalk.i64_in _ (by omega)
  have o5 : IntKind.i64.wrap (x7 : Int) = (x7 : Int) := IntWalk.i64_in _ (by omega)
  have hszm : sz < 65536 := by omega
  have HC := Lib.hid (show G 0 5 = x5 ∧ szF (G 0) = sz ∧ x5 < 256 from ⟨hx5, by unfold szF; rw [hx6, hx7, hy6, hsz], b5⟩)
  have hd0 : w.drew.cell? ⟨b, off, none⟩ = some (.slice (some ⟨sb, so, none⟩) 64 cp) := c0
  have hd5 : w.drew.cell? ⟨sb, so + 5, none⟩ = some (.int .u8 (x5 : Nat)) := c5
  have hd6 : w.drew.cell? ⟨sb, so + 6, none⟩ = some (.int .u8 (x6 : Nat)) := c6
  have hd7 : w.drew.cell? ⟨sb, so + 7, none⟩ = some (.int .u8 (x7 : Nat)) := c7
  have hbw : Below w.heap.size w w.drew := (Below.refl _ _).drew
  have HSO := Lib.hid (sectors_any sz w.drew (by omega))
  clear h0 h64 hbd hod hx6 hx7 hy6 hsz hx5 c5 c6 c7 hlc hcp
  go_enter Tryd.func10, Tryd.ntmps10
  go_upto_region 3 with fail
  refine still_lit (by kernel_rfl) (by kernel_rfl) ?_
  generalize w.drew = W0 at *
  repeat still_step
  refine wpStill_nil ?_
  clear hd5 hd6 hd7 c0 o1 o2 o3 o4 o5 hor b6 b7
  have HBW := Lib.hid hbw
  by_cases h5 : 1 ≤ x5 ∧ x5 ≤ q
  rotate_left
  · have HN : Hid (¬ JoinP q L G) := Lib.hid fun h => h5 (by rw [← HC.out.1]; exact ⟨by rw [h.count]; exact secN_pos _, h.enough⟩)
    by_cases h6 : x5 < 1
    · have t1 : (x5 : Int) < 1 := by omega
      clear h5 h6
      go_wp2_with fail
      (try simp only [Exit.inBlock, Exit.then]); refine bodyPost_ret (results_tmp4 rfl _ _ _) rfl ?_
      exact .err HN.out HBW.out
    · have t1 : ¬ (x5 : Int) < 1 := by omega
      have t2 : (q : Int) < (x5 : Int) := by omega
      clear h5 h6
      go_wp2_with fail
      (try simp only [Exit.inBlock, Exit.then]); refine bodyPost_ret (results_tmp4 rfl _ _ _) rfl ?_
      exact .err HN.out HBW.out
  obtain ⟨g1, g2⟩ := h5
  have t1 : ¬ (x5 : Int) < 1 := by omega
  have t2 : ¬ (q : Int) < (x5 : Int) := by omega
  by_cases h7 : x5 = secO sz
  rotate_left
  · have HN : Hid (¬ JoinP q L G) := Lib.hid fun h => h7 (by rw [← HC.out.1, h.count, HC.out.2.1]; exact (if_pos (by have := h.size; rw [HC.out.2.1] at this; exact this)).symm)
    obtain ⟨y, hy⟩ : ∃ x, secO sz = x := ⟨_, rfl⟩
    rw [hy] at h7
    have t3 : ¬ (x5 : Int) = (y : Int) := by omega
    have t4 : decide ((x5 : Int) = (y : Int)) = false := decide_eq_false t3
    clear h7
    go_wp2_with fail
    refine HSO.out.mono ?_
    rintro e w' ⟨rfl, rfl⟩
    rw [hy]
    clear hy
    go_wp2_with fail
    (try simp only [Exit.inBlock, Exit.then]); refine bodyPost_ret (results_tmp4 rfl _ _ _) rfl ?_
    exact .err HN.out HBW.out
  have hsz2 : sz ≤ 14280 := by
    rcases Nat.lt_or_ge 14280 sz with h8 | h8
    · rw [show secO sz = 0 from if_neg (by omega)] at h7; omega
    · exact h8
  have h9 : x5 = secN sz := by rw [h7]; exact if_pos hsz2
  have HK := Lib.hid (show 1 ≤ x5 ∧ x5 ≤ q ∧ sz ≤ 14280 ∧ x5 = secN sz ∧ x5 ≤ 255 ∧ sz ≤ 56 * x5 from ⟨g1, g2, hsz2, h9, by rw [h9]; exact secN_le hsz2, by rw [h9]; exact secN_room _⟩)
  have t3 : (x5 : Int) ≤ (cq : Int) := by have := HQ.out; omega
  have t4 : (0 : Int) ≤ (x5 : Int) := by omega
  have hss : secO sz = x5 := h7.symm
  clear g1 g2 hsz2 h7 h9
  go_wp2_with fail
  refine HSO.out.mono ?_
  rintro e w' ⟨rfl, rfl⟩
  rw [hss]
  clear hss HSO hszm
  have H0 : Hid (JG W0 (.slice none 0 0) (56 * 0) (bodyF G) W0) := Lib.hid ⟨Grow.nil _ _ _, Below.refl _ _⟩
  go_wp2_with fail
  go_loopw [8, 64] (fun v x wr => ∃ (i : Nat) (vb : Value), i ≤ x5 ∧ x = .int .i64 (i : Int) ∧ vb = v ∧ (∀ j, j < i → L j = 64) ∧ JG W0 vb (56 * i) (bodyF G) wr) (fun _ x _ => x5 - (intOf x).toNat)
  case atStart => exact ⟨0, _, Nat.zero_le _, rfl, rfl, fun j hj => absurd hj (Nat.not_lt_zero _), H0.out⟩
  case round =>
    clear H0
    obtain ⟨i, vb, hi, rfl, rfl, hL, hX⟩ := hrel
    have HX := Lib.hid hX
    have HL := Lib.hid hL
    clear hX hL
    by_cases hlt : i < x5
    · as_aux_lemma =>
      have i1 : (i : Int) < (x5 : Int) := by omega
      have i0 : (0 : Int) ≤ (i : Int) := by omega
      have i2 : (i : Int) < (q : Int) := by have := HK.out; omega
      have HI := Lib.hid hlt
      have hbi : Below w.heap.size w wr := HBW.out.trans (HX.out.o.mono HBW.out.size)
      have HBI := Lib.hid hbi
      obtain ⟨b', off', od, cpi, e1, ci, hlci, hbdi, hodi, hcpi⟩ := HA.out wr hbi i (by have := HK.out; omega)
      cases e1
      by_cases hl64 : L i = 64
      · have HLI := Lib.hid hl64
        rw [hl64] at ci hlci hbdi hodi
        obtain ⟨_, pb, po, rfl, _⟩ := hbdi 0 (by decide)
        have HB8 : Hid (Bytes wr (some ⟨pb, po + 8, none⟩) 56 (fun k => G i (8 + k))) := Lib.hid fun k hk => by
          obtain ⟨h1, _, _, e2, h3⟩ := hbdi (8 + k) (by omega)
          cases e2
          exact ⟨h1, pb, po + 8, rfl, by rw [Nat.add_assoc]; exact h3⟩
        have d1 : (8 : Int) ≤ 64 := by omega
        have d2 : ¬ cpi = 8 := by omega
        have d3 : (64 : Int) ≤ (cpi : Int) := by omega
        have k4 : IntKind.i64.wrap ((i : Int) + 1) = ((i + 1 : Nat) : Int) := by have := HK.out; rw [IntWalk.i64_in _ (by omega)]; omega
        have k5 : 56 * i + 56 < 100000000000000 := by have := HK.out; omega
        clear hbdi hodi hcpi hl64 hlt hi hbi
        go_wp2_with (at_builtin; refine wpList_appO rfl (.tmp 72) (.tmp 74) rfl W0.heap.size vb (56 * i) 56 (cpi - 8) (some ⟨pb, po + 8, none⟩) (bodyF G) (fun k => G i (8 + k)) wr rfl HX.out.g rfl (fun e => by cases e) HB8.out k5 HX.out.o.size ?_; intro v2 w2 hG hg hob; have HX2 := Lib.hid (HX.out.grew hg (hG.congr bodyF_next)); clear hG hg hob)
        go_roundw
        case rel =>
          refine ⟨i + 1, v2, HI.out, by first | rfl | go_num, rfl, fun j hj => ?_, HX2.out⟩
          by_cases hj2 : j < i
          · exact HL.out j hj2
          · obtain rfl : j = i := by omega
            exact HLI.out
        case measure => have := HI.out; simp [intOf]; omega
      · have HN : Hid (¬ JoinP q L G) := Lib.hid fun h => hl64 (h.lens i (by rw [HC.out.1]; exact hlt))
        obtain ⟨l, hl⟩ : ∃ x, L i = x := ⟨_, rfl⟩
        rw [hl] at ci hl64 hlci hbdi hodi
        unfold maxLen at hcpi
        have z3 : ¬ (l : Int) = 64 := by omega
        have z4 : decide ((l : Int) = 64) = false := decide_eq_false z3
        clear hbdi hodi hl64 hlt hi hl hbi
        go_wp2_with fail
        (try simp only [Exit.inBlock, Exit.then]); refine bodyPost_ret (results_tmp4 rfl _ _ _) rfl ?_
        exact .err HN.out HBI.out
    · obtain rfl : i = x5 := by omega
      have i1 : ¬ (i : Int) < (i : Int) := by omega
      clear hlt hi
      have hbi : Below w.heap.size w wr := HBW.out.trans (HX.out.o.mono HBW.out.size)
      have HBI := Lib.hid hbi
      obtain ⟨b', off', od, cpi, e1, ci, hlci, hbdi, hodi, hcpi⟩ := HA.out wr hbi 0 (by have := HK.out; omega)
      cases e1
      rw [H64.out, Nat.add_zero] at ci
      rw [H64.out] at hbdi
      have HSQ := Lib.hid (seq_any od 64 cpi (G 0) wr hbdi (by unfold maxLen; omega))
      obtain ⟨g, cg, rfl, hge, hBG, hc1, hc2⟩ := HX.out.g.someN (by have := HK.out; omega) (fun j hj => by
        unfold bodyF
        obtain ⟨_, _, _, _, _, _, _, hb9, _, _⟩ := HA.out wr hbi (j / 56) (by have := HK.out; omega)
        exact (hb9 (8 + j % 56) (by rw [HL.out (j / 56) (by omega)]; omega)).1)
      have HBG : Hid (∀ w', Below wr.heap.size wr w' → Bytes w' (some ⟨g, 0, none⟩) sz (bodyF G)) := Lib.hid fun w' h k hk => (hBG.later h) k (by have := HK.out; omega)
      have u1 : (sz : Int) ≤ (cg : Int) := by have := HK.out; omega
      have u2 : (0 : Int) ≤ (sz : Int) := by omega
      have HCG := Lib.hid hc1
      clear hbi hlci hbdi hodi hcpi hge hBG hc1 hc2
      go_wp2_with fail
      refine HSQ.out.mono ?_
      rintro e w2 ⟨(⟨_, rfl⟩ | ⟨h, _⟩), hb2⟩
      rotate_left
      · exact absurd rfl h
      obtain ⟨s, hs⟩ : ∃ x, seqF (G 0) = x := ⟨_, rfl⟩
      have HS := Lib.hid hs
      rw [hs]
      have HB2 := Lib.hid (HBI.out.trans (hb2.mono HBI.out.size))
      have hBB := HBG.out w2 hb2
      have hs2 : s < 4294967296 := by rw [← hs]; exact seqF_lt fun k hk => ((HBD.out _ (Below.refl _ _)) k (by omega)).1
      clear hs hb2 ci HSQ
      by_cases hs0 : s = 0
      · have HN : Hid (¬ JoinP q L G) := Lib.hid fun h => h.seq (by rw [HS.out, hs0])
        have HSP := Lib.hid (split_err s sz (some ⟨g, 0, none⟩) sz w2 (by have := HK.out; unfold maxLen; omega) (.inl hs0))
        clear hs0 hBB hs2
        go_wp2_with fail
        refine HSP.out.mono ?_
        rintro e w' ⟨rfl, rfl⟩
        go_wp2_with fail
        (try simp only [Exit.inBlock, Exit.then]); refine bodyPost_ret (results_tmp4 rfl _ _ _) rfl ?_
        exact .err HN.out HB2.out
      · have HSP := Lib.hid (split_any s sz (some ⟨g, 0, none⟩) sz (bodyF G) w2 hs0 hs2 hBB (fun e => by cases e) (Nat.le_refl _) HK.out.2.2.1)
        have HS0 := Lib.hid hs0
        have HBB := Lib.hid hBB
        clear hs0 hBB hs2
        go_wp2_with fail
        refine HSP.out.mono ?_
        rintro e w3 ⟨gl, rfl, hLB, hb3, _⟩
        rw [← HK.out.2.2.2.1] at hLB ⊢
        have HB3 := Lib.hid (HB2.out.trans (hb3.mono HB2.out.size))
        have hl64 : ∀ j, j < i → L j = 64 := HL.out
        have HBE := Lib.hid (begins_any (some ⟨b, off, none⟩) (some ⟨gl, 0, none⟩) q cq i i L (fun _ => 64) G (frF s sz (bodyF G)) w3 (HA.out w3 HB3.out) hLB HK.out.2.1 (by have := HQ.out; unfold maxLen; omega))
        have HB4 := Lib.hid (HBB.out.later hb3)
        clear hLB hb3 HSP HBB hl64
        go_wp2_with fail
        refine HBE.out.mono ?_
        rintro e w4 ⟨(⟨rfl, hsame⟩ | ⟨rfl, hsame⟩), hb4⟩
        · have HB5 := Lib.hid (HB3.out.trans (hb4.mono HB3.out.size))
          have HR := Lib.hid (HB4.out.later hb4)
          have HJ : Hid (JoinP q L G) := Lib.hid (by
            obtain ⟨k1, k2, k3, k4, k5, k6⟩ := HK.out
            obtain ⟨e1, e2, e3⟩ := HC.out
            exact ⟨by omega, H64.out, by rw [e2]; exact k3, by rw [e1, e2]; exact k4, by rw [e1]; exact k2, fun j hj => HL.out j (by rw [e1] at hj; exact hj), by rw [HS.out]; exact HS0.out, fun j hj => by rw [e1] at hj; rw [HS.out, e2]; exact same_all HL.out hsame j hj⟩)
          clear hsame hb4 HBE
          go_wp2_with fail
          (try simp only [Exit.inBlock, Exit.then]); refine bodyPost_ret (results_tmp4 rfl _ _ _) rfl ?_
          refine ⟨HB5.out, .inl ⟨HJ.out, g, ?_, ?_⟩⟩
          · rw [HS.out, HC.out.1, HC.out.2.1]; rfl
          · rw [HC.out.2.1]; exact HR.out
        · have HB5 := Lib.hid (HB3.out.trans (hb4.mono HB3.out.size))
          have HN : Hid (¬ JoinP q L G) := Lib.hid (fun h => hsame (all_same HL.out fun j hj k hk => by
            have := h.all j (by rw [HC.out.1]; exact hj) k hk
            rw [HS.out, HC.out.2.1] at this; exact this))
          clear hsame hb4 HBE
          go_wp2_with fail
          (try simp only [Exit.inBlock, Exit.then]); refine bodyPost_ret (results_tmp4 rfl _ _ _) rfl ?_
          exact .err HN.out HB5.out
end Go.Proofs.YtfbbnffinlebbaaDoor
