/- The record that begins a list of sectors, as the document tells it. -/
import Derived.Test.YtfbbnffinlebbaaDoorFr9
namespace Go.Proofs.YtfbbnffinlebbaaDoor
set_option linter.unusedVariables false
set_option linter.unusedSimpArgs false
open Go.RowKit

/-- What the document's Join answers. -/
def RJoinR (q : Nat) (L : Nat → Nat) (G : Nat → Nat → Nat) (w0 : World) (e : Ending) (w' : World) : Prop :=
  Below w0.heap.size w0 w' ∧ ((JoinP q L G ∧ ∃ o c, e = .returned (.tuple #[.int .u32 (seqF (G 0) : Nat), .slice o (szF (G 0)) c, .int .i64 (G 0 5 : Nat), .int .i64 0]) ∧ Bytes w' o (szF (G 0)) (bodyF G) ∧ (o = none → szF (G 0) = 0)) ∨
    (¬ JoinP q L G ∧ e = .returned (.tuple #[.int .u32 0, .slice none 0 0, .int .i64 0, .int .i64 4])))
theorem RJoinR.err {q : Nat} {L : Nat → Nat} {G : Nat → Nat → Nat} {w0 w' : World} (h : ¬ JoinP q L G) (hb : Below w0.heap.size w0 w') : RJoinR q L G w0 (.returned (.tuple #[.int .u32 0, .slice none 0 0, .int .i64 0, .int .i64 4])) w' := ⟨hb, .inr ⟨h, rfl⟩⟩
theorem hdr_ok {G : Nat → Nat → Nat} {i s sz n : Nat} (h4 : ∀ k, k < 4 → G i k = G 0 k) (hs : seqF (G 0) = s) (hb : ∀ k, k < 8 → G 0 k < 256) (hz : szF (G 0) = sz) (hn : n = secN sz) (e4 : G i 4 = i) (e5 : G i 5 = n) (e6 : G i 6 = G 0 6) (e7 : G i 7 = G 0 7) :
    ∀ k, k < 8 → G i k = frF s sz (bodyF G) i k := fun k hk => by
  have b7 := hb 7 (by decide)
  unfold szF at hz
  match k, hk with
  | 0, _ => rw [frF_low _ _ _ _ _ (by decide), ← hs, seqF_byte (fun k hk => hb k (by omega)) 0 (by decide)]; exact h4 0 (by decide)
  | 1, _ => rw [frF_low _ _ _ _ _ (by decide), ← hs, seqF_byte (fun k hk => hb k (by omega)) 1 (by decide)]; exact h4 1 (by decide)
  | 2, _ => rw [frF_low _ _ _ _ _ (by decide), ← hs, seqF_byte (fun k hk => hb k (by omega)) 2 (by decide)]; exact h4 2 (by decide)
  | 3, _ => rw [frF_low _ _ _ _ _ (by decide), ← hs, seqF_byte (fun k hk => hb k (by omega)) 3 (by decide)]; exact h4 3 (by decide)
  | 4, _ => rw [frF_at4]; exact e4
  | 5, _ => rw [frF_at5, e5, hn]
  | 6, _ => rw [frF_at6, e6]; omega
  | 7, _ => rw [frF_at7, e7]; omega
theorem Bytes.at {w : World} {b o n : Nat} {f : Nat → Nat} (h : Bytes w (some ⟨b, o, none⟩) n f) (i m : Nat) (hi : i + m ≤ n) : Bytes w (some ⟨b, o + i, none⟩) m (fun k => f (i + k)) := fun k hk => by
  obtain ⟨h1, _, _, e2, h3⟩ := h (i + k) (by omega)
  cases e2
  exact ⟨h1, b, o + i, rfl, by rw [Nat.add_assoc]; exact h3⟩
set_option maxRecDepth 100000 in
set_option maxHeartbeats 16000000 in
theorem rjoin_any (op : Option Addr) (q cq : Nat) (L : Nat → Nat) (G : Nat → Nat → Nat) (w : World) (hA : LBs w op q L G) (hqc : q ≤ cq) (hcm : cq ≤ maxLen) :
    Calls Tryd.prog 11 #[.slice op q cq] w (RJoinR q L G w) := by
  unfold maxLen at hcm
  have HA : Hid (∀ w', Below w.heap.size w w' → LBs w' op q L G) := Lib.hid fun w' h => hA.later h
  have HQ := Lib.hid (show q ≤ cq ∧ cq ≤ 9223372036854775807 from ⟨hqc, hcm⟩)
  have hqm : (q : Int) ≤ 9223372036854775807 := by omega
  clear hA hqc hcm
  by_cases h0 : q = 0
  · have HN : Hid (¬ JoinP q L G) := Lib.hid fun h => absurd h.some (by omega)
    subst h0
    go_enter Tryd.func11, Tryd.ntmps11
    go_wp2_with fail
    (try simp only [Exit.inBlock, Exit.then]); refine bodyPost_ret (results_tmp4 rfl _ _ _) rfl ?_
    exact .err HN.out (Below.refl _ _)
  have hq0 : 0 < q := by omega
  have z0 : ¬ (q : Int) = 0 := by omega
  have z1 : decide ((q : Int) = 0) = false := decide_eq_false z0
  have z2 : (0 : Int) < (q : Int) := by omega
  obtain ⟨b, off, od, cp, rfl, c0, hlc, hbd, hod, hcp⟩ := HA.out w (Below.refl _ _) 0 hq0
  rw [Nat.add_zero] at c0
  by_cases h64 : L 0 = 64
  rotate_left
  · have HN : Hid (¬ JoinP q L G) := Lib.hid fun h => h64 h.len0
    obtain ⟨l, hl⟩ : ∃ x, L 0 = x := ⟨_, rfl⟩
    rw [hl] at c0 h64 hlc hbd hod
    unfold maxLen at hcp
    have z3 : ¬ (l : Int) = 64 := by omega
    have z4 : decide ((l : Int) = 64) = false := decide_eq_false z3
    have z5 : ((l : Int) != 64) = true := by simpa using z3
    clear h0 h64 hbd hod hl
    go_enter Tryd.func11, Tryd.ntmps11
    go_wp2_with fail
    (try simp only [Exit.inBlock, Exit.then]); refine bodyPost_ret (results_tmp4 rfl _ _ _) rfl ?_
    exact .err HN.out (Below.refl _ _)
  rw [h64] at c0 hlc hbd hod
  have H64 := Lib.hid h64
  have HSQ := Lib.hid (rseq_any od 64 cp (G 0) w hbd (by unfold maxLen; omega))
  obtain ⟨_, sb, so, rfl, _⟩ := hbd 0 (by decide)
  obtain ⟨b5, _, _, e5, c5⟩ := hbd 5 (by decide)
  obtain ⟨b6, _, _, e6, c6⟩ := hbd 6 (by decide)
  obtain ⟨b7, _, _, e7, c7⟩ := hbd 7 (by decide)
  cases e5; cases e6; cases e7
  have HBD : Hid (∀ w', Below w.heap.size w w' → Bytes w' (some ⟨sb, so, none⟩) 64 (G 0)) := Lib.hid fun w' h => hbd.later h
  have HC0 : Hid (∀ w', Below w.heap.size w w' → w'.cell? ⟨b, off, none⟩ = some (.slice (some ⟨sb, so, none⟩) 64 cp)) := Lib.hid fun w' h => cell_below h c0
  obtain ⟨x5, hx5⟩ : ∃ x, G 0 5 = x := ⟨_, rfl⟩
  obtain ⟨x6, hx6⟩ : ∃ x, G 0 6 = x := ⟨_, rfl⟩
  obtain ⟨x7, hx7⟩ : ∃ x, G 0 7 = x := ⟨_, rfl⟩
  obtain ⟨y6, hy6⟩ : ∃ x, x6 * 256 = x := ⟨_, rfl⟩
  obtain ⟨sz, hsz⟩ : ∃ x, y6 + x7 = x := ⟨_, rfl⟩
  obtain ⟨s, hs⟩ : ∃ x, seqF (G 0) = x := ⟨_, rfl⟩
  rw [hx5] at b5 c5
  rw [hx6] at b6 c6
  rw [hx7] at b7 c7
  have o1 : (x6 : Int) * 256 = (y6 : Int) := by omega
  have o2 : IntKind.i64.wrap (y6 : Int) = (y6 : Int) := IntWalk.i64_in _ (by omega)
  have o3 : IntKind.i64.wrap (x5 : Int) = (x5 : Int) := IntWalk.i64_in _ (by omega)
  have o4 : IntKind.i64.wrap (x6 : Int) = (x6 : Int) := IntWalk.i64_in _ (by omega)
  have o5 : IntKind.i64.wrap (x7 : Int) = (x7 : Int) := IntWalk.i64_in _ (by omega)
  have o6 : (y6 : Int) + (x7 : Int) = (sz : Int) := by omega
  have o7 : IntKind.i64.wrap (sz : Int) = (sz : Int) := IntWalk.i64_in _ (by omega)
  have HC := Lib.hid (show G 0 5 = x5 ∧ szF (G 0) = sz ∧ x5 < 256 ∧ seqF (G 0) = s ∧ sz < 65536 from ⟨hx5, by unfold szF; rw [hx6, hx7, hy6, hsz], b5, hs, by omega⟩)
  have HCL := Lib.hid (show 64 ≤ cp ∧ cp ≤ maxLen from ⟨hlc, hcp⟩)
  have hszm : sz < 65536 := by omega
  clear h0 h64 hbd hod hx6 hx7 hy6 hsz hx5 hlc hcp
  go_enter Tryd.func11, Tryd.ntmps11
  go_wp2_with fail
  refine HSQ.out.mono ?_
  rintro e w1 ⟨(⟨_, rfl⟩ | ⟨h, _⟩), hb1⟩
  rotate_left
  · exact absurd rfl h
  rw [hs]
  have HB1 := Lib.hid hb1
  have hd0 : w1.drew.cell? ⟨b, off, none⟩ = some (.slice (some ⟨sb, so, none⟩) 64 cp) := HC0.out _ hb1.drew
  have hd5 : w1.drew.cell? ⟨sb, so + 5, none⟩ = some (.int .u8 (x5 : Nat)) := cell_below hb1.drew c5
  have hd6 : w1.drew.cell? ⟨sb, so + 6, none⟩ = some (.int .u8 (x6 : Nat)) := cell_below hb1.drew c6
  have hd7 : w1.drew.cell? ⟨sb, so + 7, none⟩ = some (.int .u8 (x7 : Nat)) := cell_below hb1.drew c7
  have HB2 := Lib.hid hb1.drew
  have HSO := Lib.hid (rsectors_any sz w1.drew (by omega))
  clear hb1 c0 c5 c6 c7 HSQ hs HB1
  go_wp2_with fail
  refine still_lit (by kernel_rfl) (by kernel_rfl) ?_
  generalize w1.drew = W0 at *
  repeat still_step
  refine wpStill_nil ?_
  clear hd0 hd5 hd6 hd7 o1 o2 o3 o4 o5 o6 o7 b6 b7
  by_cases hs0 : s = 0
  · have HN : Hid (¬ JoinP q L G) := Lib.hid fun h => h.seq (by rw [HC.out.2.2.2.1, hs0])
    subst hs0
    go_wp2_with fail
    (try simp only [Exit.inBlock, Exit.then]); refine bodyPost_ret (results_tmp4 rfl _ _ _) rfl ?_
    exact .err HN.out HB2.out
  have s1 : ¬ (s : Int) = 0 := by omega
  have s2 : decide ((s : Int) = 0) = false := decide_eq_false s1
  have s3 : ((s : Int) == 0) = false := by simpa using s1
  have HS0 := Lib.hid hs0
  by_cases hn0 : x5 = 0
  · have HN : Hid (¬ JoinP q L G) := Lib.hid fun h => by
      have h1 := h.count
      rw [HC.out.1, hn0] at h1
      have := secN_pos (szF (G 0)); omega
    subst hn0
    clear hs0
    go_wp2_with fail
    (try simp only [Exit.inBlock, Exit.then]); refine bodyPost_ret (results_tmp4 rfl _ _ _) rfl ?_
    exact .err HN.out HB2.out
  have n1 : ¬ (x5 : Int) = 0 := by omega
  have n2 : decide ((x5 : Int) = 0) = false := decide_eq_false n1
  have n3 : ((x5 : Int) == 0) = false := by simpa using n1
  obtain ⟨y, hy⟩ : ∃ x, secO sz = x := ⟨_, rfl⟩
  have HY := Lib.hid hy
  rw [hy] at HSO
  by_cases h7 : x5 = y
  rotate_left
  · have HN : Hid (¬ JoinP q L G) := Lib.hid fun h => h7 (by rw [← HC.out.1, h.count, HC.out.2.1, ← HY.out]; exact (if_pos (by have := h.size; rw [HC.out.2.1] at this; exact this)).symm)
    have t3 : ¬ (x5 : Int) = (y : Int) := by omega
    have t4 : decide ((x5 : Int) = (y : Int)) = false := decide_eq_false t3
    have t5 : ((x5 : Int) != (y : Int)) = true := by simpa using t3
    clear h7 hy hs0 hn0
    go_wp2_with fail
    refine HSO.out.mono ?_
    rintro e w2 ⟨rfl, hb3⟩
    have HB3 := Lib.hid (HB2.out.trans (hb3.mono HB2.out.size))
    clear hb3
    go_wp2_with fail
    (try simp only [Exit.inBlock, Exit.then]); refine bodyPost_ret (results_tmp4 rfl _ _ _) rfl ?_
    exact .err HN.out HB3.out
  subst h7
  have HPOS := Lib.hid (show 1 ≤ x5 by omega)
  by_cases h8 : q < x5
  · have HN : Hid (¬ JoinP q L G) := Lib.hid fun h => by have := h.enough; rw [HC.out.1] at this; omega
    have t3 : (q : Int) < (x5 : Int) := by omega
    clear h8 hy hs0 hn0
    go_wp2_with fail
    refine HSO.out.mono ?_
    rintro e w2 ⟨rfl, hb3⟩
    have HB3 := Lib.hid (HB2.out.trans (hb3.mono HB2.out.size))
    clear hb3
    go_wp2_with fail
    (try simp only [Exit.inBlock, Exit.then]); refine bodyPost_ret (results_tmp4 rfl _ _ _) rfl ?_
    exact .err HN.out HB3.out
  have t3 : ¬ (q : Int) < (x5 : Int) := by omega
  have t4 : decide ((q : Int) < (x5 : Int)) = false := decide_eq_false t3
  have t5 : decide (q < x5) = false := decide_eq_false h8
  have hsz2 : sz ≤ 14280 := by
    rcases Nat.lt_or_ge 14280 sz with h8 | h8
    · rw [show secO sz = 0 from if_neg (by omega)] at hy; omega
    · exact h8
  have h9 : x5 = secN sz := by rw [← hy]; exact if_pos hsz2
  have HK := Lib.hid (show 1 ≤ x5 ∧ x5 ≤ q ∧ sz ≤ 14280 ∧ x5 = secN sz ∧ x5 ≤ 255 ∧ sz ≤ 56 * x5 from ⟨HPOS.out, by omega, hsz2, h9, by rw [h9]; exact secN_le hsz2, by rw [h9]; exact secN_room _⟩)
  clear h8 hy hs0 hn0 hsz2 h9 HY HPOS
  go_wp2_with fail
  refine HSO.out.mono ?_
  rintro e w2 ⟨rfl, hb3⟩
  have HB3 := Lib.hid (HB2.out.trans (hb3.mono HB2.out.size))
  have H0 : Hid (JG w2 (.slice none 0 0) (min (56 * 0) sz) (bodyF G) w2) := Lib.hid ⟨by rw [Nat.mul_zero, Nat.zero_min]; exact Grow.nil _ _ _, Below.refl _ _⟩
  clear hb3 HSO HB2
  go_wp2_with fail
  clear s1 s2 s3 n1 n2 n3
  go_loopw [10, 11] (fun v x wr => ∃ (i : Nat) (vb : Value), i ≤ x5 ∧ x = .int .i64 (i : Int) ∧ vb = v ∧ (∀ j, j < i → L j = 64 ∧ ∀ k, k < 64 → G j k = frF s sz (bodyF G) j k) ∧ JG w2 vb (min (56 * i) sz) (bodyF G) wr) (fun _ x _ => x5 - (intOf x).toNat)
  case atStart => exact ⟨0, _, Nat.zero_le _, rfl, rfl, fun j hj => absurd hj (Nat.not_lt_zero _), H0.out⟩
  case round =>
    clear H0
    obtain ⟨i, vb, hi, rfl, rfl, hL, hX⟩ := hrel
    have HX := Lib.hid hX
    have HL := Lib.hid hL
    clear hX hL
    generalize wr = wo at *
    by_cases hlt : i < x5
    · as_aux_lemma =>
      have i1 : (i : Int) < (x5 : Int) := by omega
      have i0 : (0 : Int) ≤ (i : Int) := by omega
      have i2 : (i : Int) < (q : Int) := by have := HK.out; omega
      have HI := Lib.hid hlt
      have hbi : Below w.heap.size w wo := HB3.out.trans (HX.out.o.mono HB3.out.size)
      have HBI := Lib.hid hbi
      obtain ⟨b', off', od, cpi, e1, ci, hlci, hbdi, hodi, hcpi⟩ := HA.out w (Below.refl _ _) i (by have := HK.out; omega)
      cases e1
      have ci := cell_below hbi ci
      have k4 : IntKind.i64.wrap ((i : Int) + 1) = ((i + 1 : Nat) : Int) := by have := HK.out; rw [IntWalk.i64_in _ (by omega)]; omega
      have hd0 : wo.drew.cell? ⟨b, off, none⟩ = some (.slice (some ⟨sb, so, none⟩) 64 cp) := HC0.out _ hbi.drew
      by_cases hl64 : L i = 64
      rotate_left
      · have HN : Hid (¬ JoinP q L G) := Lib.hid fun h => hl64 (h.lens i (by rw [HC.out.1]; exact hlt))
        obtain ⟨l, hl⟩ : ∃ x, L i = x := ⟨_, rfl⟩
        rw [hl] at ci hl64 hlci hbdi hodi
        unfold maxLen at hcpi
        have z3 : ¬ (l : Int) = 64 := by omega
        have z4 : decide ((l : Int) = 64) = false := decide_eq_false z3
        have z5 : ((l : Int) != 64) = true := by simpa using z3
        have HBW := Lib.hid hbi.drew
        clear hbdi hodi hl64 hlt hi hl hbi HX
        go_wp2_with fail
        refine WS.lit (by kernel_rfl) (by kernel_rfl) ?_
        generalize wo.drew = W1 at *
        refine WS.val (v := ?_) (by kernel_rfl) ?_ ?_
        rotate_left
        · go_simp
          (try with_reducible rfl)
        (try simp only [Act.put, List.setIfInBounds_toArray, List.set_cons_zero, List.set_cons_succ])
        refine WS.val (v := ?_) (by kernel_rfl) ?_ ?_
        rotate_left
        · go_simp
          (try with_reducible rfl)
        (try simp only [Act.put, List.setIfInBounds_toArray, List.set_cons_zero, List.set_cons_succ])
        refine WS.val (v := ?_) (by kernel_rfl) ?_ ?_
        rotate_left
        · go_simp
          (try with_reducible rfl)
        (try simp only [Act.put, List.setIfInBounds_toArray, List.set_cons_zero, List.set_cons_succ])
        refine WS.val (v := ?_) (by kernel_rfl) ?_ ?_
        rotate_left
        · go_simp
          (try with_reducible rfl)
        (try simp only [Act.put, List.setIfInBounds_toArray, List.set_cons_zero, List.set_cons_succ])
        refine WS.skip (by kernel_rfl) ?_
        (try simp only [Act.put, List.setIfInBounds_toArray, List.set_cons_zero, List.set_cons_succ])
        refine WS.skip (by kernel_rfl) ?_
        (try simp only [Act.put, List.setIfInBounds_toArray, List.set_cons_zero, List.set_cons_succ])
        refine WS.skip (by kernel_rfl) ?_
        (try simp only [Act.put, List.setIfInBounds_toArray, List.set_cons_zero, List.set_cons_succ])
        refine WS.skip (by kernel_rfl) ?_
        (try simp only [Act.put, List.setIfInBounds_toArray, List.set_cons_zero, List.set_cons_succ])
        refine WS.skip (by kernel_rfl) ?_
        (try simp only [Act.put, List.setIfInBounds_toArray, List.set_cons_zero, List.set_cons_succ])
        refine WS.skip (by kernel_rfl) ?_
        (try simp only [Act.put, List.setIfInBounds_toArray, List.set_cons_zero, List.set_cons_succ])
        refine WS.skip (by kernel_rfl) ?_
        (try simp only [Act.put, List.setIfInBounds_toArray, List.set_cons_zero, List.set_cons_succ])
        refine WS.skip (by kernel_rfl) ?_
        (try simp only [Act.put, List.setIfInBounds_toArray, List.set_cons_zero, List.set_cons_succ])
        refine WS.skip (by kernel_rfl) ?_
        (try simp only [Act.put, List.setIfInBounds_toArray, List.set_cons_zero, List.set_cons_succ])
        refine WS.val (v := ?_) (by kernel_rfl) ?_ ?_
        rotate_left
        · go_simp
          (try with_reducible rfl)
        (try simp only [Act.put, List.setIfInBounds_toArray, List.set_cons_zero, List.set_cons_succ])
        refine WS.val (v := ?_) (by kernel_rfl) ?_ ?_
        rotate_left
        · go_simp
          (try with_reducible rfl)
        (try simp only [Act.put, List.setIfInBounds_toArray, List.set_cons_zero, List.set_cons_succ])
        refine WS.skip (by kernel_rfl) ?_
        (try simp only [Act.put, List.setIfInBounds_toArray, List.set_cons_zero, List.set_cons_succ])
        refine WS.skip (by kernel_rfl) ?_
        (try simp only [Act.put, List.setIfInBounds_toArray, List.set_cons_zero, List.set_cons_succ])
        refine WS.skip (by kernel_rfl) ?_
        (try simp only [Act.put, List.setIfInBounds_toArray, List.set_cons_zero, List.set_cons_succ])
        refine WS.skip (by kernel_rfl) ?_
        (try simp only [Act.put, List.setIfInBounds_toArray, List.set_cons_zero, List.set_cons_succ])
        refine WS.skip (by kernel_rfl) ?_
        (try simp only [Act.put, List.setIfInBounds_toArray, List.set_cons_zero, List.set_cons_succ])
        refine WS.skip (by kernel_rfl) ?_
        (try simp only [Act.put, List.setIfInBounds_toArray, List.set_cons_zero, List.set_cons_succ])
        refine WS.val (v := ?_) (by kernel_rfl) ?_ ?_
        rotate_left
        · go_simp
          (try with_reducible rfl)
        (try simp only [Act.put, List.setIfInBounds_toArray, List.set_cons_zero, List.set_cons_succ])
        refine WS.val (v := ?_) (by kernel_rfl) ?_ ?_
        rotate_left
        · go_simp
          (try with_reducible rfl)
        (try simp only [Act.put, List.setIfInBounds_toArray, List.set_cons_zero, List.set_cons_succ])
        refine WS.skip (by kernel_rfl) ?_
        (try simp only [Act.put, List.setIfInBounds_toArray, List.set_cons_zero, List.set_cons_succ])
        refine WS.skip (by kernel_rfl) ?_
        (try simp only [Act.put, List.setIfInBounds_toArray, List.set_cons_zero, List.set_cons_succ])
        refine WS.skip (by kernel_rfl) ?_
        (try simp only [Act.put, List.setIfInBounds_toArray, List.set_cons_zero, List.set_cons_succ])
        refine WS.skip (by kernel_rfl) ?_
        (try simp only [Act.put, List.setIfInBounds_toArray, List.set_cons_zero, List.set_cons_succ])
        refine WS.skip (by kernel_rfl) ?_
        (try simp only [Act.put, List.setIfInBounds_toArray, List.set_cons_zero, List.set_cons_succ])
        refine WS.skip (by kernel_rfl) ?_
        (try simp only [Act.put, List.setIfInBounds_toArray, List.set_cons_zero, List.set_cons_succ])
        refine WS.val (v := ?_) (by kernel_rfl) ?_ ?_
        rotate_left
        · go_simp
          (try with_reducible rfl)
        (try simp only [Act.put, List.setIfInBounds_toArray, List.set_cons_zero, List.set_cons_succ])
        refine WS.val (v := ?_) (by kernel_rfl) ?_ ?_
        rotate_left
        · go_simp
          (try with_reducible rfl)
        (try simp only [Act.put, List.setIfInBounds_toArray, List.set_cons_zero, List.set_cons_succ])
        refine WS.skip (by kernel_rfl) ?_
        (try simp only [Act.put, List.setIfInBounds_toArray, List.set_cons_zero, List.set_cons_succ])
        refine WS.skip (by kernel_rfl) ?_
        (try simp only [Act.put, List.setIfInBounds_toArray, List.set_cons_zero, List.set_cons_succ])
        refine WS.skip (by kernel_rfl) ?_
        (try simp only [Act.put, List.setIfInBounds_toArray, List.set_cons_zero, List.set_cons_succ])
        refine WS.skip (by kernel_rfl) ?_
        (try simp only [Act.put, List.setIfInBounds_toArray, List.set_cons_zero, List.set_cons_succ])
        refine WS.skip (by kernel_rfl) ?_
        (try simp only [Act.put, List.setIfInBounds_toArray, List.set_cons_zero, List.set_cons_succ])
        refine WS.skip (by kernel_rfl) ?_
        (try simp only [Act.put, List.setIfInBounds_toArray, List.set_cons_zero, List.set_cons_succ])
        refine WS.skip (by kernel_rfl) ?_
        (try simp only [Act.put, List.setIfInBounds_toArray, List.set_cons_zero, List.set_cons_succ])
        refine WS.skip (by kernel_rfl) ?_
        (try simp only [Act.put, List.setIfInBounds_toArray, List.set_cons_zero, List.set_cons_succ])
        refine WS.skip (by kernel_rfl) ?_
        (try simp only [Act.put, List.setIfInBounds_toArray, List.set_cons_zero, List.set_cons_succ])
        refine WS.val (v := ?_) (by kernel_rfl) ?_ ?_
        rotate_left
        · go_simp
          (try with_reducible rfl)
        (try simp only [Act.put, List.setIfInBounds_toArray, List.set_cons_zero, List.set_cons_succ])
        refine WS.nil ?_
        go_wp2_with fail
        (try simp only [Exit.inBlock, Exit.then]); refine bodyPost_ret (results_tmp4 rfl _ _ _) rfl ?_
        exact .err HN.out HBW.out
      have HLI := Lib.hid hl64
      rw [hl64] at ci hlci hbdi hodi
      obtain ⟨_, pb, po, rfl, _⟩ := hbdi 0 (by decide)
      have HBP : Hid (∀ w', Below w.heap.size w w' → Bytes w' (some ⟨pb, po, none⟩) 64 (G i)) := Lib.hid fun w' h => hbdi.later h
      have hbI : Bytes wo.drew (some ⟨pb, po, none⟩) 64 (G i) := HBP.out _ hbi.drew
      obtain ⟨hy4, _, _, e4, d4⟩ := hbI 4 (by decide)
      obtain ⟨hy5, _, _, e5, d5⟩ := hbI 5 (by decide)
      cases e4; cases e5
      obtain ⟨v4, hv4⟩ : ∃ x, G i 4 = x := ⟨_, rfl⟩
      obtain ⟨v5, hv5⟩ : ∃ x, G i 5 = x := ⟨_, rfl⟩
      rw [hv4] at d4 hy4
      rw [hv5] at d5 hy5
      have u4 : IntKind.i64.wrap (v4 : Int) = (v4 : Int) := IntWalk.i64_in _ (by omega)
      have u5 : IntKind.i64.wrap (v5 : Int) = (v5 : Int) := IntWalk.i64_in _ (by omega)
      have hcp2 := HCL.out.2
      unfold maxLen at hcpi hcp2
      have r1 : (4 : Int) ≤ (cpi : Int) := by omega
      have r2 : (4 : Int) ≤ (cp : Int) := by have := HCL.out.1; omega
      have r3 : ¬ cpi = 6 := by omega
      have r4 : ¬ cp = 6 := by have := HCL.out.1; omega
      have r5 : (8 : Int) ≤ (cpi : Int) := by omega
      have r6 : (8 : Int) ≤ (cp : Int) := by have := HCL.out.1; omega
      obtain ⟨S1, hS1⟩ : ∃ x, strF 4 (G i) = x := ⟨_, rfl⟩
      obtain ⟨S2, hS2⟩ : ∃ x, strF 4 (G 0) = x := ⟨_, rfl⟩
      obtain ⟨S3, hS3⟩ : ∃ x, strF 2 (fun k => G i (6 + k)) = x := ⟨_, rfl⟩
      obtain ⟨S4, hS4⟩ : ∃ x, strF 2 (fun k => G 0 (6 + k)) = x := ⟨_, rfl⟩
      have hb0 : Bytes wo.drew (some ⟨sb, so, none⟩) 64 (G 0) := HBD.out _ hbi.drew
      have HC1 : Hid ((convert 23 9 (.slice (some ⟨pb, po, none⟩) 4 cpi)).run Tryd.prog wo.drew = .ok (.string S1) wo.drew) := Lib.hid (by rw [← hS1]; exact conv_any (hbI.mono (by decide)) (fun e => by cases e))
      have HC2 : Hid ((convert 23 9 (.slice (some ⟨sb, so, none⟩) 4 cp)).run Tryd.prog wo.drew = .ok (.string S2) wo.drew) := Lib.hid (by rw [← hS2]; exact conv_any (hb0.mono (by decide)) (fun e => by cases e))
      have HC3 : Hid ((convert 23 9 (.slice (some ⟨pb, po + 6, none⟩) 2 (cpi - 6))).run Tryd.prog wo.drew = .ok (.string S3) wo.drew) := Lib.hid (by rw [← hS3]; exact conv_any (hbI.at 6 2 (by decide)) (fun e => by cases e))
      have HC4 : Hid ((convert 23 9 (.slice (some ⟨sb, so + 6, none⟩) 2 (cp - 6))).run Tryd.prog wo.drew = .ok (.string S4) wo.drew) := Lib.hid (by rw [← hS4]; exact conv_any (hb0.at 6 2 (by decide)) (fun e => by cases e))
      have HBB := Lib.hid (show (∀ k, k < 64 → G i k < 256) ∧ (∀ k, k < 64 → G 0 k < 256) from ⟨fun k hk => (hbI k hk).1, fun k hk => (hb0 k hk).1⟩)
      have HBW := Lib.hid hbi.drew
      have HXD : Hid (JG w2 vb (min (56 * i) sz) (bodyF G) wo.drew) := Lib.hid (HX.out.later (Below.refl _ _).drew)
      have HSS := Lib.hid (show strF 4 (G i) = S1 ∧ strF 4 (G 0) = S2 ∧ strF 2 (fun k => G i (6 + k)) = S3 ∧ strF 2 (fun k => G 0 (6 + k)) = S4 ∧ G i 4 = v4 ∧ G i 5 = v5 from ⟨hS1, hS2, hS3, hS4, hv4, hv5⟩)
      clear hbdi hodi hl64 hlt hi hbi hS1 hS2 hS3 hS4 hv4 hv5 hbI hb0 HX hcp2 hcpi hlci hy4 hy5
      go_wp2_with fail
      clear ci
      by_cases q1 : S1 = S2
      rotate_left
      · have HN : Hid (¬ JoinP q L G) := Lib.hid fun h => q1 (by rw [← HSS.out.1, ← HSS.out.2.1]; exact strF_congr fun k hk => h.seqs (by rw [HC.out.1]; exact HI.out) k hk)
        have hs1 := str_ne q1
        have hs2 : (S1.toList == S2.toList) = false := by simpa using hs1
        clear q1
        refine WS.lit (by kernel_rfl) (by kernel_rfl) ?_
        generalize wo.drew = W1 at *
        refine WS.val (v := ?_) (by kernel_rfl) ?_ ?_
        rotate_left
        · go_simp
          (try with_reducible rfl)
        (try simp only [Act.put, List.setIfInBounds_toArray, List.set_cons_zero, List.set_cons_succ])
        refine WS.val (v := ?_) (by kernel_rfl) ?_ ?_
        rotate_left
        · go_simp
          (try with_reducible rfl)
        (try simp only [Act.put, List.setIfInBounds_toArray, List.set_cons_zero, List.set_cons_succ])
        refine WS.val (v := ?_) (by kernel_rfl) ?_ ?_
        rotate_left
        · go_simp
          (try with_reducible rfl)
        (try simp only [Act.put, List.setIfInBounds_toArray, List.set_cons_zero, List.set_cons_succ])
        refine WS.val (v := ?_) (by kernel_rfl) ?_ ?_
        rotate_left
        · go_simp
          (try with_reducible rfl)
        (try simp only [Act.put, List.setIfInBounds_toArray, List.set_cons_zero, List.set_cons_succ])
        refine WS.val (v := ?_) (by kernel_rfl) ?_ ?_
        rotate_left
        · go_simp
          (try with_reducible rfl)
        (try simp only [Act.put, List.setIfInBounds_toArray, List.set_cons_zero, List.set_cons_succ])
        refine WS.val (v := ?_) (by kernel_rfl) ?_ ?_
        rotate_left
        · go_simp
          (try with_reducible rfl)
        (try simp only [Act.put, List.setIfInBounds_toArray, List.set_cons_zero, List.set_cons_succ])
        refine WS.val (by kernel_rfl) (exec_convO (x := .tmp 83) rfl rfl HC1.out) ?_
        (try simp only [Act.put, List.setIfInBounds_toArray, List.set_cons_zero, List.set_cons_succ])
        refine WS.val (v := ?_) (by kernel_rfl) ?_ ?_
        rotate_left
        · go_simp
          (try with_reducible rfl)
        (try simp only [Act.put, List.setIfInBounds_toArray, List.set_cons_zero, List.set_cons_succ])
        refine WS.val (v := ?_) (by kernel_rfl) ?_ ?_
        rotate_left
        · go_simp
          (try with_reducible rfl)
        (try simp only [Act.put, List.setIfInBounds_toArray, List.set_cons_zero, List.set_cons_succ])
        refine WS.val (v := ?_) (by kernel_rfl) ?_ ?_
        rotate_left
        · go_simp
          (try with_reducible rfl)
        (try simp only [Act.put, List.setIfInBounds_toArray, List.set_cons_zero, List.set_cons_succ])
        refine WS.val (v := ?_) (by kernel_rfl) ?_ ?_
        rotate_left
        · go_simp
          (try with_reducible rfl)
        (try simp only [Act.put, List.setIfInBounds_toArray, List.set_cons_zero, List.set_cons_succ])
        refine WS.val (by kernel_rfl) (exec_convO (x := .tmp 88) rfl rfl HC2.out) ?_
        (try simp only [Act.put, List.setIfInBounds_toArray, List.set_cons_zero, List.set_cons_succ])
        refine WS.val (v := ?_) (by kernel_rfl) ?_ ?_
        rotate_left
        · go_simp
          (try with_reducible rfl)
        (try simp only [Act.put, List.setIfInBounds_toArray, List.set_cons_zero, List.set_cons_succ])
        refine WS.val (v := ?_) (by kernel_rfl) ?_ ?_
        rotate_left
        · go_simp
          (try with_reducible rfl)
        (try simp only [Act.put, List.setIfInBounds_toArray, List.set_cons_zero, List.set_cons_succ])
        refine WS.val (v := ?_) (by kernel_rfl) ?_ ?_
        rotate_left
        · go_simp
          (try with_reducible rfl)
        (try simp only [Act.put, List.setIfInBounds_toArray, List.set_cons_zero, List.set_cons_succ])
        refine WS.skip (by kernel_rfl) ?_
        (try simp only [Act.put, List.setIfInBounds_toArray, List.set_cons_zero, List.set_cons_succ])
        refine WS.skip (by kernel_rfl) ?_
        (try simp only [Act.put, List.setIfInBounds_toArray, List.set_cons_zero, List.set_cons_succ])
        refine WS.skip (by kernel_rfl) ?_
        (try simp only [Act.put, List.setIfInBounds_toArray, List.set_cons_zero, List.set_cons_succ])
        refine WS.skip (by kernel_rfl) ?_
        (try simp only [Act.put, List.setIfInBounds_toArray, List.set_cons_zero, List.set_cons_succ])
        refine WS.skip (by kernel_rfl) ?_
        (try simp only [Act.put, List.setIfInBounds_toArray, List.set_cons_zero, List.set_cons_succ])
        refine WS.skip (by kernel_rfl) ?_
        (try simp only [Act.put, List.setIfInBounds_toArray, List.set_cons_zero, List.set_cons_succ])
        refine WS.val (v := ?_) (by kernel_rfl) ?_ ?_
        rotate_left
        · go_simp
          (try with_reducible rfl)
        (try simp only [Act.put, List.setIfInBounds_toArray, List.set_cons_zero, List.set_cons_succ])
        refine WS.val (v := ?_) (by kernel_rfl) ?_ ?_
        rotate_left
        · go_simp
          (try with_reducible rfl)
        (try simp only [Act.put, List.setIfInBounds_toArray, List.set_cons_zero, List.set_cons_succ])
        refine WS.skip (by kernel_rfl) ?_
        (try simp only [Act.put, List.setIfInBounds_toArray, List.set_cons_zero, List.set_cons_succ])
        refine WS.skip (by kernel_rfl) ?_
        (try simp only [Act.put, List.setIfInBounds_toArray, List.set_cons_zero, List.set_cons_succ])
        refine WS.skip (by kernel_rfl) ?_
        (try simp only [Act.put, List.setIfInBounds_toArray, List.set_cons_zero, List.set_cons_succ])
        refine WS.skip (by kernel_rfl) ?_
        (try simp only [Act.put, List.setIfInBounds_toArray, List.set_cons_zero, List.set_cons_succ])
        refine WS.skip (by kernel_rfl) ?_
        (try simp only [Act.put, List.setIfInBounds_toArray, List.set_cons_zero, List.set_cons_succ])
        refine WS.skip (by kernel_rfl) ?_
        (try simp only [Act.put, List.setIfInBounds_toArray, List.set_cons_zero, List.set_cons_succ])
        refine WS.val (v := ?_) (by kernel_rfl) ?_ ?_
        rotate_left
        · go_simp
          (try with_reducible rfl)
        (try simp only [Act.put, List.setIfInBounds_toArray, List.set_cons_zero, List.set_cons_succ])
        refine WS.val (v := ?_) (by kernel_rfl) ?_ ?_
        rotate_left
        · go_simp
          (try with_reducible rfl)
        (try simp only [Act.put, List.setIfInBounds_toArray, List.set_cons_zero, List.set_cons_succ])
        refine WS.skip (by kernel_rfl) ?_
        (try simp only [Act.put, List.setIfInBounds_toArray, List.set_cons_zero, List.set_cons_succ])
        refine WS.skip (by kernel_rfl) ?_
        (try simp only [Act.put, List.setIfInBounds_toArray, List.set_cons_zero, List.set_cons_succ])
        refine WS.skip (by kernel_rfl) ?_
        (try simp only [Act.put, List.setIfInBounds_toArray, List.set_cons_zero, List.set_cons_succ])
        refine WS.skip (by kernel_rfl) ?_
        (try simp only [Act.put, List.setIfInBounds_toArray, List.set_cons_zero, List.set_cons_succ])
        refine WS.skip (by kernel_rfl) ?_
        (try simp only [Act.put, List.setIfInBounds_toArray, List.set_cons_zero, List.set_cons_succ])
        refine WS.skip (by kernel_rfl) ?_
        (try simp only [Act.put, List.setIfInBounds_toArray, List.set_cons_zero, List.set_cons_succ])
        refine WS.skip (by kernel_rfl) ?_
        (try simp only [Act.put, List.setIfInBounds_toArray, List.set_cons_zero, List.set_cons_succ])
        refine WS.skip (by kernel_rfl) ?_
        (try simp only [Act.put, List.setIfInBounds_toArray, List.set_cons_zero, List.set_cons_succ])
        refine WS.skip (by kernel_rfl) ?_
        (try simp only [Act.put, List.setIfInBounds_toArray, List.set_cons_zero, List.set_cons_succ])
        refine WS.val (v := ?_) (by kernel_rfl) ?_ ?_
        rotate_left
        · go_simp
          (try with_reducible rfl)
        (try simp only [Act.put, List.setIfInBounds_toArray, List.set_cons_zero, List.set_cons_succ])
        refine WS.nil ?_
        go_wp2_with fail
        (try simp only [Exit.inBlock, Exit.then]); refine bodyPost_ret (results_tmp4 rfl _ _ _) rfl ?_
        exact .err HN.out HBW.out
      have HQ1 : Hid (∀ k, k < 4 → G i k = G 0 k) := Lib.hid ((strF_inj (n := 4) (m := 4) (fun k hk => HBB.out.1 k (by omega)) (fun k hk => HBB.out.2 k (by omega)) (by rw [HSS.out.1, HSS.out.2.1, q1])).2)
      subst q1
      by_cases q2 : v4 = i
      rotate_left
      · have HN : Hid (¬ JoinP q L G) := Lib.hid fun h => q2 (by rw [← HSS.out.2.2.2.2.1, h.all i (by rw [HC.out.1]; exact HI.out) 4 (by decide), frF_at4])
        have hs1 : ¬ (v4 : Int) = (i : Int) := by omega
        have hs2 : decide ((v4 : Int) = (i : Int)) = false := decide_eq_false hs1
        have hs3 : ((v4 : Int) != (i : Int)) = true := by simpa using hs1
        clear q2
        refine WS.lit (by kernel_rfl) (by kernel_rfl) ?_
        generalize wo.drew = W1 at *
        refine WS.val (v := ?_) (by kernel_rfl) ?_ ?_
        rotate_left
        · go_simp
          (try with_reducible rfl)
        (try simp only [Act.put, List.setIfInBounds_toArray, List.set_cons_zero, List.set_cons_succ])
        refine WS.val (v := ?_) (by kernel_rfl) ?_ ?_
        rotate_left
        · go_simp
          (try with_reducible rfl)
        (try simp only [Act.put, List.setIfInBounds_toArray, List.set_cons_zero, List.set_cons_succ])
        refine WS.val (v := ?_) (by kernel_rfl) ?_ ?_
        rotate_left
        · go_simp
          (try with_reducible rfl)
        (try simp only [Act.put, List.setIfInBounds_toArray, List.set_cons_zero, List.set_cons_succ])
        refine WS.val (v := ?_) (by kernel_rfl) ?_ ?_
        rotate_left
        · go_simp
          (try with_reducible rfl)
        (try simp only [Act.put, List.setIfInBounds_toArray, List.set_cons_zero, List.set_cons_succ])
        refine WS.val (v := ?_) (by kernel_rfl) ?_ ?_
        rotate_left
        · go_simp
          (try with_reducible rfl)
        (try simp only [Act.put, List.setIfInBounds_toArray, List.set_cons_zero, List.set_cons_succ])
        refine WS.val (v := ?_) (by kernel_rfl) ?_ ?_
        rotate_left
        · go_simp
          (try with_reducible rfl)
        (try simp only [Act.put, List.setIfInBounds_toArray, List.set_cons_zero, List.set_cons_succ])
        refine WS.val (by kernel_rfl) (exec_convO (x := .tmp 83) rfl rfl HC1.out) ?_
        (try simp only [Act.put, List.setIfInBounds_toArray, List.set_cons_zero, List.set_cons_succ])
        refine WS.val (v := ?_) (by kernel_rfl) ?_ ?_
        rotate_left
        · go_simp
          (try with_reducible rfl)
        (try simp only [Act.put, List.setIfInBounds_toArray, List.set_cons_zero, List.set_cons_succ])
        refine WS.val (v := ?_) (by kernel_rfl) ?_ ?_
        rotate_left
        · go_simp
          (try with_reducible rfl)
        (try simp only [Act.put, List.setIfInBounds_toArray, List.set_cons_zero, List.set_cons_succ])
        refine WS.val (v := ?_) (by kernel_rfl) ?_ ?_
        rotate_left
        · go_simp
          (try with_reducible rfl)
        (try simp only [Act.put, List.setIfInBounds_toArray, List.set_cons_zero, List.set_cons_succ])
        refine WS.val (v := ?_) (by kernel_rfl) ?_ ?_
        rotate_left
        · go_simp
          (try with_reducible rfl)
        (try simp only [Act.put, List.setIfInBounds_toArray, List.set_cons_zero, List.set_cons_succ])
        refine WS.val (by kernel_rfl) (exec_convO (x := .tmp 88) rfl rfl HC2.out) ?_
        (try simp only [Act.put, List.setIfInBounds_toArray, List.set_cons_zero, List.set_cons_succ])
        refine WS.val (v := ?_) (by kernel_rfl) ?_ ?_
        rotate_left
        · go_simp
          (try with_reducible rfl)
        (try simp only [Act.put, List.setIfInBounds_toArray, List.set_cons_zero, List.set_cons_succ])
        refine WS.val (v := ?_) (by kernel_rfl) ?_ ?_
        rotate_left
        · go_simp
          (try with_reducible rfl)
        (try simp only [Act.put, List.setIfInBounds_toArray, List.set_cons_zero, List.set_cons_succ])
        refine WS.val (v := ?_) (by kernel_rfl) ?_ ?_
        rotate_left
        · go_simp
          (try with_reducible rfl)
        (try simp only [Act.put, List.setIfInBounds_toArray, List.set_cons_zero, List.set_cons_succ])
        refine WS.val (v := ?_) (by kernel_rfl) ?_ ?_
        rotate_left
        · go_simp
          (try with_reducible rfl)
        (try simp only [Act.put, List.setIfInBounds_toArray, List.set_cons_zero, List.set_cons_succ])
        refine WS.val (v := ?_) (by kernel_rfl) ?_ ?_
        rotate_left
        · go_simp
          (try with_reducible rfl)
        (try simp only [Act.put, List.setIfInBounds_toArray, List.set_cons_zero, List.set_cons_succ])
        refine WS.val (v := ?_) (by kernel_rfl) ?_ ?_
        rotate_left
        · go_simp
          (try with_reducible rfl)
        (try simp only [Act.put, List.setIfInBounds_toArray, List.set_cons_zero, List.set_cons_succ])
        refine WS.val (v := ?_) (by kernel_rfl) ?_ ?_
        rotate_left
        · go_simp
          (try with_reducible rfl)
        (try simp only [Act.put, List.setIfInBounds_toArray, List.set_cons_zero, List.set_cons_succ])
        refine WS.val (v := ?_) (by kernel_rfl) ?_ ?_
        rotate_left
        · go_simp
          (try with_reducible rfl)
        (try simp only [Act.put, List.setIfInBounds_toArray, List.set_cons_zero, List.set_cons_succ])
        refine WS.val (v := ?_) (by kernel_rfl) ?_ ?_
        rotate_left
        · go_simp
          (try with_reducible rfl)
        (try simp only [Act.put, List.setIfInBounds_toArray, List.set_cons_zero, List.set_cons_succ])
        refine WS.val (v := ?_) (by kernel_rfl) ?_ ?_
        rotate_left
        · go_simp
          (try with_reducible rfl)
        (try simp only [Act.put, List.setIfInBounds_toArray, List.set_cons_zero, List.set_cons_succ])
        refine WS.val (v := ?_) (by kernel_rfl) ?_ ?_
        rotate_left
        · go_simp
          (try with_reducible rfl)
        (try simp only [Act.put, List.setIfInBounds_toArray, List.set_cons_zero, List.set_cons_succ])
        refine WS.skip (by kernel_rfl) ?_
        (try simp only [Act.put, List.setIfInBounds_toArray, List.set_cons_zero, List.set_cons_succ])
        refine WS.skip (by kernel_rfl) ?_
        (try simp only [Act.put, List.setIfInBounds_toArray, List.set_cons_zero, List.set_cons_succ])
        refine WS.skip (by kernel_rfl) ?_
        (try simp only [Act.put, List.setIfInBounds_toArray, List.set_cons_zero, List.set_cons_succ])
        refine WS.skip (by kernel_rfl) ?_
        (try simp only [Act.put, List.setIfInBounds_toArray, List.set_cons_zero, List.set_cons_succ])
        refine WS.skip (by kernel_rfl) ?_
        (try simp only [Act.put, List.setIfInBounds_toArray, List.set_cons_zero, List.set_cons_succ])
        refine WS.skip (by kernel_rfl) ?_
        (try simp only [Act.put, List.setIfInBounds_toArray, List.set_cons_zero, List.set_cons_succ])
        refine WS.val (v := ?_) (by kernel_rfl) ?_ ?_
        rotate_left
        · go_simp
          (try with_reducible rfl)
        (try simp only [Act.put, List.setIfInBounds_toArray, List.set_cons_zero, List.set_cons_succ])
        refine WS.val (v := ?_) (by kernel_rfl) ?_ ?_
        rotate_left
        · go_simp
          (try with_reducible rfl)
        (try simp only [Act.put, List.setIfInBounds_toArray, List.set_cons_zero, List.set_cons_succ])
        refine WS.skip (by kernel_rfl) ?_
        (try simp only [Act.put, List.setIfInBounds_toArray, List.set_cons_zero, List.set_cons_succ])
        refine WS.skip (by kernel_rfl) ?_
        (try simp only [Act.put, List.setIfInBounds_toArray, List.set_cons_zero, List.set_cons_succ])
        refine WS.skip (by kernel_rfl) ?_
        (try simp only [Act.put, List.setIfInBounds_toArray, List.set_cons_zero, List.set_cons_succ])
        refine WS.skip (by kernel_rfl) ?_
        (try simp only [Act.put, List.setIfInBounds_toArray, List.set_cons_zero, List.set_cons_succ])
        refine WS.skip (by kernel_rfl) ?_
        (try simp only [Act.put, List.setIfInBounds_toArray, List.set_cons_zero, List.set_cons_succ])
        refine WS.skip (by kernel_rfl) ?_
        (try simp only [Act.put, List.setIfInBounds_toArray, List.set_cons_zero, List.set_cons_succ])
        refine WS.skip (by kernel_rfl) ?_
        (try simp only [Act.put, List.setIfInBounds_toArray, List.set_cons_zero, List.set_cons_succ])
        refine WS.skip (by kernel_rfl) ?_
        (try simp only [Act.put, List.setIfInBounds_toArray, List.set_cons_zero, List.set_cons_succ])
        refine WS.skip (by kernel_rfl) ?_
        (try simp only [Act.put, List.setIfInBounds_toArray, List.set_cons_zero, List.set_cons_succ])
        refine WS.val (v := ?_) (by kernel_rfl) ?_ ?_
        rotate_left
        · go_simp
          (try with_reducible rfl)
        (try simp only [Act.put, List.setIfInBounds_toArray, List.set_cons_zero, List.set_cons_succ])
        refine WS.nil ?_
        go_wp2_with fail
        (try simp only [Exit.inBlock, Exit.then]); refine bodyPost_ret (results_tmp4 rfl _ _ _) rfl ?_
        exact .err HN.out HBW.out
      subst q2
      by_cases q3 : v5 = x5
      rotate_left
      · have HN : Hid (¬ JoinP q L G) := Lib.hid fun h => q3 (by rw [← HSS.out.2.2.2.2.2, h.all _ (by rw [HC.out.1]; exact HI.out) 5 (by decide), frF_at5, ← h.count, HC.out.1])
        have hs1 : ¬ (v5 : Int) = (x5 : Int) := by omega
        have hs2 : decide ((v5 : Int) = (x5 : Int)) = false := decide_eq_false hs1
        have hs3 : ((v5 : Int) != (x5 : Int)) = true := by simpa using hs1
        clear q3
        refine WS.lit (by kernel_rfl) (by kernel_rfl) ?_
        generalize wo.drew = W1 at *
        refine WS.val (v := ?_) (by kernel_rfl) ?_ ?_
        rotate_left
        · go_simp
          (try with_reducible rfl)
        (try simp only [Act.put, List.setIfInBounds_toArray, List.set_cons_zero, List.set_cons_succ])
        refine WS.val (v := ?_) (by kernel_rfl) ?_ ?_
        rotate_left
        · go_simp
          (try with_reducible rfl)
        (try simp only [Act.put, List.setIfInBounds_toArray, List.set_cons_zero, List.set_cons_succ])
        refine WS.val (v := ?_) (by kernel_rfl) ?_ ?_
        rotate_left
        · go_simp
          (try with_reducible rfl)
        (try simp only [Act.put, List.setIfInBounds_toArray, List.set_cons_zero, List.set_cons_succ])
        refine WS.val (v := ?_) (by kernel_rfl) ?_ ?_
        rotate_left
        · go_simp
          (try with_reducible rfl)
        (try simp only [Act.put, List.setIfInBounds_toArray, List.set_cons_zero, List.set_cons_succ])
        refine WS.val (v := ?_) (by kernel_rfl) ?_ ?_
        rotate_left
        · go_simp
          (try with_reducible rfl)
        (try simp only [Act.put, List.setIfInBounds_toArray, List.set_cons_zero, List.set_cons_succ])
        refine WS.val (v := ?_) (by kernel_rfl) ?_ ?_
        rotate_left
        · go_simp
          (try with_reducible rfl)
        (try simp only [Act.put, List.setIfInBounds_toArray, List.set_cons_zero, List.set_cons_succ])
        refine WS.val (by kernel_rfl) (exec_convO (x := .tmp 83) rfl rfl HC1.out) ?_
        (try simp only [Act.put, List.setIfInBounds_toArray, List.set_cons_zero, List.set_cons_succ])
        refine WS.val (v := ?_) (by kernel_rfl) ?_ ?_
        rotate_left
        · go_simp
          (try with_reducible rfl)
        (try simp only [Act.put, List.setIfInBounds_toArray, List.set_cons_zero, List.set_cons_succ])
        refine WS.val (v := ?_) (by kernel_rfl) ?_ ?_
        rotate_left
        · go_simp
          (try with_reducible rfl)
        (try simp only [Act.put, List.setIfInBounds_toArray, List.set_cons_zero, List.set_cons_succ])
        refine WS.val (v := ?_) (by kernel_rfl) ?_ ?_
        rotate_left
        · go_simp
          (try with_reducible rfl)
        (try simp only [Act.put, List.setIfInBounds_toArray, List.set_cons_zero, List.set_cons_succ])
        refine WS.val (v := ?_) (by kernel_rfl) ?_ ?_
        rotate_left
        · go_simp
          (try with_reducible rfl)
        (try simp only [Act.put, List.setIfInBounds_toArray, List.set_cons_zero, List.set_cons_succ])
        refine WS.val (by kernel_rfl) (exec_convO (x := .tmp 88) rfl rfl HC2.out) ?_
        (try simp only [Act.put, List.setIfInBounds_toArray, List.set_cons_zero, List.set_cons_succ])
        refine WS.val (v := ?_) (by kernel_rfl) ?_ ?_
        rotate_left
        · go_simp
          (try with_reducible rfl)
        (try simp only [Act.put, List.setIfInBounds_toArray, List.set_cons_zero, List.set_cons_succ])
        refine WS.val (v := ?_) (by kernel_rfl) ?_ ?_
        rotate_left
        · go_simp
          (try with_reducible rfl)
        (try simp only [Act.put, List.setIfInBounds_toArray, List.set_cons_zero, List.set_cons_succ])
        refine WS.val (v := ?_) (by kernel_rfl) ?_ ?_
        rotate_left
        · go_simp
          (try with_reducible rfl)
        (try simp only [Act.put, List.setIfInBounds_toArray, List.set_cons_zero, List.set_cons_succ])
        refine WS.val (v := ?_) (by kernel_rfl) ?_ ?_
        rotate_left
        · go_simp
          (try with_reducible rfl)
        (try simp only [Act.put, List.setIfInBounds_toArray, List.set_cons_zero, List.set_cons_succ])
        refine WS.val (v := ?_) (by kernel_rfl) ?_ ?_
        rotate_left
        · go_simp
          (try with_reducible rfl)
        (try simp only [Act.put, List.setIfInBounds_toArray, List.set_cons_zero, List.set_cons_succ])
        refine WS.val (v := ?_) (by kernel_rfl) ?_ ?_
        rotate_left
        · go_simp
          (try with_reducible rfl)
        (try simp only [Act.put, List.setIfInBounds_toArray, List.set_cons_zero, List.set_cons_succ])
        refine WS.val (v := ?_) (by kernel_rfl) ?_ ?_
        rotate_left
        · go_simp
          (try with_reducible rfl)
        (try simp only [Act.put, List.setIfInBounds_toArray, List.set_cons_zero, List.set_cons_succ])
        refine WS.val (v := ?_) (by kernel_rfl) ?_ ?_
        rotate_left
        · go_simp
          (try with_reducible rfl)
        (try simp only [Act.put, List.setIfInBounds_toArray, List.set_cons_zero, List.set_cons_succ])
        refine WS.val (v := ?_) (by kernel_rfl) ?_ ?_
        rotate_left
        · go_simp
          (try with_reducible rfl)
        (try simp only [Act.put, List.setIfInBounds_toArray, List.set_cons_zero, List.set_cons_succ])
        refine WS.val (v := ?_) (by kernel_rfl) ?_ ?_
        rotate_left
        · go_simp
          (try with_reducible rfl)
        (try simp only [Act.put, List.setIfInBounds_toArray, List.set_cons_zero, List.set_cons_succ])
        refine WS.val (v := ?_) (by kernel_rfl) ?_ ?_
        rotate_left
        · go_simp
          (try with_reducible rfl)
        (try simp only [Act.put, List.setIfInBounds_toArray, List.set_cons_zero, List.set_cons_succ])
        refine WS.val (v := ?_) (by kernel_rfl) ?_ ?_
        rotate_left
        · go_simp
          (try with_reducible rfl)
        (try simp only [Act.put, List.setIfInBounds_toArray, List.set_cons_zero, List.set_cons_succ])
        refine WS.val (v := ?_) (by kernel_rfl) ?_ ?_
        rotate_left
        · go_simp
          (try with_reducible rfl)
        (try simp only [Act.put, List.setIfInBounds_toArray, List.set_cons_zero, List.set_cons_succ])
        refine WS.val (v := ?_) (by kernel_rfl) ?_ ?_
        rotate_left
        · go_simp
          (try with_reducible rfl)
        (try simp only [Act.put, List.setIfInBounds_toArray, List.set_cons_zero, List.set_cons_succ])
        refine WS.val (v := ?_) (by kernel_rfl) ?_ ?_
        rotate_left
        · go_simp
          (try with_reducible rfl)
        (try simp only [Act.put, List.setIfInBounds_toArray, List.set_cons_zero, List.set_cons_succ])
        refine WS.val (v := ?_) (by kernel_rfl) ?_ ?_
        rotate_left
        · go_simp
          (try with_reducible rfl)
        (try simp only [Act.put, List.setIfInBounds_toArray, List.set_cons_zero, List.set_cons_succ])
        refine WS.val (v := ?_) (by kernel_rfl) ?_ ?_
        rotate_left
        · go_simp
          (try with_reducible rfl)
        (try simp only [Act.put, List.setIfInBounds_toArray, List.set_cons_zero, List.set_cons_succ])
        refine WS.val (v := ?_) (by kernel_rfl) ?_ ?_
        rotate_left
        · go_simp
          (try with_reducible rfl)
        (try simp only [Act.put, List.setIfInBounds_toArray, List.set_cons_zero, List.set_cons_succ])
        refine WS.val (v := ?_) (by kernel_rfl) ?_ ?_
        rotate_left
        · go_simp
          (try with_reducible rfl)
        (try simp only [Act.put, List.setIfInBounds_toArray, List.set_cons_zero, List.set_cons_succ])
        refine WS.skip (by kernel_rfl) ?_
        (try simp only [Act.put, List.setIfInBounds_toArray, List.set_cons_zero, List.set_cons_succ])
        refine WS.skip (by kernel_rfl) ?_
        (try simp only [Act.put, List.setIfInBounds_toArray, List.set_cons_zero, List.set_cons_succ])
        refine WS.skip (by kernel_rfl) ?_
        (try simp only [Act.put, List.setIfInBounds_toArray, List.set_cons_zero, List.set_cons_succ])
        refine WS.skip (by kernel_rfl) ?_
        (try simp only [Act.put, List.setIfInBounds_toArray, List.set_cons_zero, List.set_cons_succ])
        refine WS.skip (by kernel_rfl) ?_
        (try simp only [Act.put, List.setIfInBounds_toArray, List.set_cons_zero, List.set_cons_succ])
        refine WS.skip (by kernel_rfl) ?_
        (try simp only [Act.put, List.setIfInBounds_toArray, List.set_cons_zero, List.set_cons_succ])
        refine WS.skip (by kernel_rfl) ?_
        (try simp only [Act.put, List.setIfInBounds_toArray, List.set_cons_zero, List.set_cons_succ])
        refine WS.skip (by kernel_rfl) ?_
        (try simp only [Act.put, List.setIfInBounds_toArray, List.set_cons_zero, List.set_cons_succ])
        refine WS.skip (by kernel_rfl) ?_
        (try simp only [Act.put, List.setIfInBounds_toArray, List.set_cons_zero, List.set_cons_succ])
        refine WS.val (v := ?_) (by kernel_rfl) ?_ ?_
        rotate_left
        · go_simp
          (try with_reducible rfl)
        (try simp only [Act.put, List.setIfInBounds_toArray, List.set_cons_zero, List.set_cons_succ])
        refine WS.nil ?_
        go_wp2_with fail
        (try simp only [Exit.inBlock, Exit.then]); refine bodyPost_ret (results_tmp4 rfl _ _ _) rfl ?_
        exact .err HN.out HBW.out
      have HQ3 := Lib.hid (show G v4 5 = x5 from by rw [HSS.out.2.2.2.2.2, q3])
      subst q3
      by_cases q4 : S3 = S4
      rotate_left
      · have HN : Hid (¬ JoinP q L G) := Lib.hid fun h => q4 (by
          rw [← HSS.out.2.2.1, ← HSS.out.2.2.2.1]
          refine strF_congr fun k hk => ?_
          have h1 := h.all v4 (by rw [HC.out.1]; exact HI.out) (6 + k) (by omega)
          have h2 := h.all 0 (by rw [HC.out.1]; have := HI.out; omega) (6 + k) (by omega)
          rw [h1, h2]
          match k, hk with
          | 0, _ => rw [frF_at6, frF_at6]
          | 1, _ => rw [frF_at7, frF_at7])
        have hs1 := str_ne q4
        have hs2 : (S3.toList == S4.toList) = false := by simpa using hs1
        clear q4
        refine WS.lit (by kernel_rfl) (by kernel_rfl) ?_
        generalize wo.drew = W1 at *
        refine WS.val (v := ?_) (by kernel_rfl) ?_ ?_
        rotate_left
        · go_simp
          (try with_reducible rfl)
        (try simp only [Act.put, List.setIfInBounds_toArray, List.set_cons_zero, List.set_cons_succ])
        refine WS.val (v := ?_) (by kernel_rfl) ?_ ?_
        rotate_left
        · go_simp
          (try with_reducible rfl)
        (try simp only [Act.put, List.setIfInBounds_toArray, List.set_cons_zero, List.set_cons_succ])
        refine WS.val (v := ?_) (by kernel_rfl) ?_ ?_
        rotate_left
        · go_simp
          (try with_reducible rfl)
        (try simp only [Act.put, List.setIfInBounds_toArray, List.set_cons_zero, List.set_cons_succ])
        refine WS.val (v := ?_) (by kernel_rfl) ?_ ?_
        rotate_left
        · go_simp
          (try with_reducible rfl)
        (try simp only [Act.put, List.setIfInBounds_toArray, List.set_cons_zero, List.set_cons_succ])
        refine WS.val (v := ?_) (by kernel_rfl) ?_ ?_
        rotate_left
        · go_simp
          (try with_reducible rfl)
        (try simp only [Act.put, List.setIfInBounds_toArray, List.set_cons_zero, List.set_cons_succ])
        refine WS.val (v := ?_) (by kernel_rfl) ?_ ?_
        rotate_left
        · go_simp
          (try with_reducible rfl)
        (try simp only [Act.put, List.setIfInBounds_toArray, List.set_cons_zero, List.set_cons_succ])
        refine WS.val (by kernel_rfl) (exec_convO (x := .tmp 83) rfl rfl HC1.out) ?_
        (try simp only [Act.put, List.setIfInBounds_toArray, List.set_cons_zero, List.set_cons_succ])
        refine WS.val (v := ?_) (by kernel_rfl) ?_ ?_
        rotate_left
        · go_simp
          (try with_reducible rfl)
        (try simp only [Act.put, List.setIfInBounds_toArray, List.set_cons_zero, List.set_cons_succ])
        refine WS.val (v := ?_) (by kernel_rfl) ?_ ?_
        rotate_left
        · go_simp
          (try with_reducible rfl)
        (try simp only [Act.put, List.setIfInBounds_toArray, List.set_cons_zero, List.set_cons_succ])
        refine WS.val (v := ?_) (by kernel_rfl) ?_ ?_
        rotate_left
        · go_simp
          (try with_reducible rfl)
        (try simp only [Act.put, List.setIfInBounds_toArray, List.set_cons_zero, List.set_cons_succ])
        refine WS.val (v := ?_) (by kernel_rfl) ?_ ?_
        rotate_left
        · go_simp
          (try with_reducible rfl)
        (try simp only [Act.put, List.setIfInBounds_toArray, List.set_cons_zero, List.set_cons_succ])
        refine WS.val (by kernel_rfl) (exec_convO (x := .tmp 88) rfl rfl HC2.out) ?_
        (try simp only [Act.put, List.setIfInBounds_toArray, List.set_cons_zero, List.set_cons_succ])
        refine WS.val (v := ?_) (by kernel_rfl) ?_ ?_
        rotate_left
        · go_simp
          (try with_reducible rfl)
        (try simp only [Act.put, List.setIfInBounds_toArray, List.set_cons_zero, List.set_cons_succ])
        refine WS.val (v := ?_) (by kernel_rfl) ?_ ?_
        rotate_left
        · go_simp
          (try with_reducible rfl)
        (try simp only [Act.put, List.setIfInBounds_toArray, List.set_cons_zero, List.set_cons_succ])
        refine WS.val (v := ?_) (by kernel_rfl) ?_ ?_
        rotate_left
        · go_simp
          (try with_reducible rfl)
        (try simp only [Act.put, List.setIfInBounds_toArray, List.set_cons_zero, List.set_cons_succ])
        refine WS.val (v := ?_) (by kernel_rfl) ?_ ?_
        rotate_left
        · go_simp
          (try with_reducible rfl)
        (try simp only [Act.put, List.setIfInBounds_toArray, List.set_cons_zero, List.set_cons_succ])
        refine WS.val (v := ?_) (by kernel_rfl) ?_ ?_
        rotate_left
        · go_simp
          (try with_reducible rfl)
        (try simp only [Act.put, List.setIfInBounds_toArray, List.set_cons_zero, List.set_cons_succ])
        refine WS.val (v := ?_) (by kernel_rfl) ?_ ?_
        rotate_left
        · go_simp
          (try with_reducible rfl)
        (try simp only [Act.put, List.setIfInBounds_toArray, List.set_cons_zero, List.set_cons_succ])
        refine WS.val (v := ?_) (by kernel_rfl) ?_ ?_
        rotate_left
        · go_simp
          (try with_reducible rfl)
        (try simp only [Act.put, List.setIfInBounds_toArray, List.set_cons_zero, List.set_cons_succ])
        refine WS.val (v := ?_) (by kernel_rfl) ?_ ?_
        rotate_left
        · go_simp
          (try with_reducible rfl)
        (try simp only [Act.put, List.setIfInBounds_toArray, List.set_cons_zero, List.set_cons_succ])
        refine WS.val (v := ?_) (by kernel_rfl) ?_ ?_
        rotate_left
        · go_simp
          (try with_reducible rfl)
        (try simp only [Act.put, List.setIfInBounds_toArray, List.set_cons_zero, List.set_cons_succ])
        refine WS.val (v := ?_) (by kernel_rfl) ?_ ?_
        rotate_left
        · go_simp
          (try with_reducible rfl)
        (try simp only [Act.put, List.setIfInBounds_toArray, List.set_cons_zero, List.set_cons_succ])
        refine WS.val (v := ?_) (by kernel_rfl) ?_ ?_
        rotate_left
        · go_simp
          (try with_reducible rfl)
        (try simp only [Act.put, List.setIfInBounds_toArray, List.set_cons_zero, List.set_cons_succ])
        refine WS.val (v := ?_) (by kernel_rfl) ?_ ?_
        rotate_left
        · go_simp
          (try with_reducible rfl)
        (try simp only [Act.put, List.setIfInBounds_toArray, List.set_cons_zero, List.set_cons_succ])
        refine WS.val (v := ?_) (by kernel_rfl) ?_ ?_
        rotate_left
        · go_simp
          (try with_reducible rfl)
        (try simp only [Act.put, List.setIfInBounds_toArray, List.set_cons_zero, List.set_cons_succ])
        refine WS.val (v := ?_) (by kernel_rfl) ?_ ?_
        rotate_left
        · go_simp
          (try with_reducible rfl)
        (try simp only [Act.put, List.setIfInBounds_toArray, List.set_cons_zero, List.set_cons_succ])
        refine WS.val (v := ?_) (by kernel_rfl) ?_ ?_
        rotate_left
        · go_simp
          (try with_reducible rfl)
        (try simp only [Act.put, List.setIfInBounds_toArray, List.set_cons_zero, List.set_cons_succ])
        refine WS.val (v := ?_) (by kernel_rfl) ?_ ?_
        rotate_left
        · go_simp
          (try with_reducible rfl)
        (try simp only [Act.put, List.setIfInBounds_toArray, List.set_cons_zero, List.set_cons_succ])
        refine WS.val (v := ?_) (by kernel_rfl) ?_ ?_
        rotate_left
        · go_simp
          (try with_reducible rfl)
        (try simp only [Act.put, List.setIfInBounds_toArray, List.set_cons_zero, List.set_cons_succ])
        refine WS.val (v := ?_) (by kernel_rfl) ?_ ?_
        rotate_left
        · go_simp
          (try with_reducible rfl)
        (try simp only [Act.put, List.setIfInBounds_toArray, List.set_cons_zero, List.set_cons_succ])
        refine WS.val (v := ?_) (by kernel_rfl) ?_ ?_
        rotate_left
        · go_simp
          (try with_reducible rfl)
        (try simp only [Act.put, List.setIfInBounds_toArray, List.set_cons_zero, List.set_cons_succ])
        refine WS.val (v := ?_) (by kernel_rfl) ?_ ?_
        rotate_left
        · go_simp
          (try with_reducible rfl)
        (try simp only [Act.put, List.setIfInBounds_toArray, List.set_cons_zero, List.set_cons_succ])
        refine WS.val (v := ?_) (by kernel_rfl) ?_ ?_
        rotate_left
        · go_simp
          (try with_reducible rfl)
        (try simp only [Act.put, List.setIfInBounds_toArray, List.set_cons_zero, List.set_cons_succ])
        refine WS.val (by kernel_rfl) (exec_convO (x := .tmp 110) rfl rfl HC3.out) ?_
        (try simp only [Act.put, List.setIfInBounds_toArray, List.set_cons_zero, List.set_cons_succ])
        refine WS.val (v := ?_) (by kernel_rfl) ?_ ?_
        rotate_left
        · go_simp
          (try with_reducible rfl)
        (try simp only [Act.put, List.setIfInBounds_toArray, List.set_cons_zero, List.set_cons_succ])
        refine WS.val (v := ?_) (by kernel_rfl) ?_ ?_
        rotate_left
        · go_simp
          (try with_reducible rfl)
        (try simp only [Act.put, List.setIfInBounds_toArray, List.set_cons_zero, List.set_cons_succ])
        refine WS.val (v := ?_) (by kernel_rfl) ?_ ?_
        rotate_left
        · go_simp
          (try with_reducible rfl)
        (try simp only [Act.put, List.setIfInBounds_toArray, List.set_cons_zero, List.set_cons_succ])
        refine WS.val (v := ?_) (by kernel_rfl) ?_ ?_
        rotate_left
        · go_simp
          (try with_reducible rfl)
        (try simp only [Act.put, List.setIfInBounds_toArray, List.set_cons_zero, List.set_cons_succ])
        refine WS.val (by kernel_rfl) (exec_convO (x := .tmp 115) rfl rfl HC4.out) ?_
        (try simp only [Act.put, List.setIfInBounds_toArray, List.set_cons_zero, List.set_cons_succ])
        refine WS.val (v := ?_) (by kernel_rfl) ?_ ?_
        rotate_left
        · go_simp
          (try with_reducible rfl)
        (try simp only [Act.put, List.setIfInBounds_toArray, List.set_cons_zero, List.set_cons_succ])
        refine WS.val (v := ?_) (by kernel_rfl) ?_ ?_
        rotate_left
        · go_simp
          (try with_reducible rfl)
        (try simp only [Act.put, List.setIfInBounds_toArray, List.set_cons_zero, List.set_cons_succ])
        refine WS.nil ?_
        go_wp2_with fail
        (try simp only [Exit.inBlock, Exit.then]); refine bodyPost_ret (results_tmp4 rfl _ _ _) rfl ?_
        exact .err HN.out HBW.out
      have HQ4 : Hid (G v4 6 = G 0 6 ∧ G v4 7 = G 0 7) := Lib.hid (by
        have h := (strF_inj (fun k hk => HBB.out.1 _ (by omega)) (fun k hk => HBB.out.2 _ (by omega)) (show strF 2 (fun k => G v4 (6 + k)) = strF 2 (fun k => G 0 (6 + k)) by rw [HSS.out.2.2.1, HSS.out.2.2.2.1, q4])).2
        exact ⟨h 0 (by decide), h 1 (by decide)⟩)
      subst q4
      have HHD := Lib.hid (hdr_ok HQ1.out HC.out.2.2.2.1 (fun k hk => HBB.out.2 k (by omega)) HC.out.2.1 HK.out.2.2.2.1 HSS.out.2.2.2.2.1 HQ3.out HQ4.out.1 HQ4.out.2)
      refine WS.lit (by kernel_rfl) (by kernel_rfl) ?_
      generalize wo.drew = W1 at *
      refine WS.val (v := ?_) (by kernel_rfl) ?_ ?_
      rotate_left
      · go_simp
        (try with_reducible rfl)
      (try simp only [Act.put, List.setIfInBounds_toArray, List.set_cons_zero, List.set_cons_succ])
      refine WS.val (v := ?_) (by kernel_rfl) ?_ ?_
      rotate_left
      · go_simp
        (try with_reducible rfl)
      (try simp only [Act.put, List.setIfInBounds_toArray, List.set_cons_zero, List.set_cons_succ])
      refine WS.val (v := ?_) (by kernel_rfl) ?_ ?_
      rotate_left
      · go_simp
        (try with_reducible rfl)
      (try simp only [Act.put, List.setIfInBounds_toArray, List.set_cons_zero, List.set_cons_succ])
      refine WS.val (v := ?_) (by kernel_rfl) ?_ ?_
      rotate_left
      · go_simp
        (try with_reducible rfl)
      (try simp only [Act.put, List.setIfInBounds_toArray, List.set_cons_zero, List.set_cons_succ])
      refine WS.val (v := ?_) (by kernel_rfl) ?_ ?_
      rotate_left
      · go_simp
        (try with_reducible rfl)
      (try simp only [Act.put, List.setIfInBounds_toArray, List.set_cons_zero, List.set_cons_succ])
      refine WS.val (v := ?_) (by kernel_rfl) ?_ ?_
      rotate_left
      · go_simp
        (try with_reducible rfl)
      (try simp only [Act.put, List.setIfInBounds_toArray, List.set_cons_zero, List.set_cons_succ])
      refine WS.val (by kernel_rfl) (exec_convO (x := .tmp 83) rfl rfl HC1.out) ?_
      (try simp only [Act.put, List.setIfInBounds_toArray, List.set_cons_zero, List.set_cons_succ])
      refine WS.val (v := ?_) (by kernel_rfl) ?_ ?_
      rotate_left
      · go_simp
        (try with_reducible rfl)
      (try simp only [Act.put, List.setIfInBounds_toArray, List.set_cons_zero, List.set_cons_succ])
      refine WS.val (v := ?_) (by kernel_rfl) ?_ ?_
      rotate_left
      · go_simp
        (try with_reducible rfl)
      (try simp only [Act.put, List.setIfInBounds_toArray, List.set_cons_zero, List.set_cons_succ])
      refine WS.val (v := ?_) (by kernel_rfl) ?_ ?_
      rotate_left
      · go_simp
        (try with_reducible rfl)
      (try simp only [Act.put, List.setIfInBounds_toArray, List.set_cons_zero, List.set_cons_succ])
      refine WS.val (v := ?_) (by kernel_rfl) ?_ ?_
      rotate_left
      · go_simp
        (try with_reducible rfl)
      (try simp only [Act.put, List.setIfInBounds_toArray, List.set_cons_zero, List.set_cons_succ])
      refine WS.val (by kernel_rfl) (exec_convO (x := .tmp 88) rfl rfl HC2.out) ?_
      (try simp only [Act.put, List.setIfInBounds_toArray, List.set_cons_zero, List.set_cons_succ])
      refine WS.val (v := ?_) (by kernel_rfl) ?_ ?_
      rotate_left
      · go_simp
        (try with_reducible rfl)
      (try simp only [Act.put, List.setIfInBounds_toArray, List.set_cons_zero, List.set_cons_succ])
      refine WS.val (v := ?_) (by kernel_rfl) ?_ ?_
      rotate_left
      · go_simp
        (try with_reducible rfl)
      (try simp only [Act.put, List.setIfInBounds_toArray, List.set_cons_zero, List.set_cons_succ])
      refine WS.val (v := ?_) (by kernel_rfl) ?_ ?_
      rotate_left
      · go_simp
        (try with_reducible rfl)
      (try simp only [Act.put, List.setIfInBounds_toArray, List.set_cons_zero, List.set_cons_succ])
      refine WS.val (v := ?_) (by kernel_rfl) ?_ ?_
      rotate_left
      · go_simp
        (try with_reducible rfl)
      (try simp only [Act.put, List.setIfInBounds_toArray, List.set_cons_zero, List.set_cons_succ])
      refine WS.val (v := ?_) (by kernel_rfl) ?_ ?_
      rotate_left
      · go_simp
        (try with_reducible rfl)
      (try simp only [Act.put, List.setIfInBounds_toArray, List.set_cons_zero, List.set_cons_succ])
      refine WS.val (v := ?_) (by kernel_rfl) ?_ ?_
      rotate_left
      · go_simp
        (try with_reducible rfl)
      (try simp only [Act.put, List.setIfInBounds_toArray, List.set_cons_zero, List.set_cons_succ])
      refine WS.val (v := ?_) (by kernel_rfl) ?_ ?_
      rotate_left
      · go_simp
        (try with_reducible rfl)
      (try simp only [Act.put, List.setIfInBounds_toArray, List.set_cons_zero, List.set_cons_succ])
      refine WS.val (v := ?_) (by kernel_rfl) ?_ ?_
      rotate_left
      · go_simp
        (try with_reducible rfl)
      (try simp only [Act.put, List.setIfInBounds_toArray, List.set_cons_zero, List.set_cons_succ])
      refine WS.val (v := ?_) (by kernel_rfl) ?_ ?_
      rotate_left
      · go_simp
        (try with_reducible rfl)
      (try simp only [Act.put, List.setIfInBounds_toArray, List.set_cons_zero, List.set_cons_succ])
      refine WS.val (v := ?_) (by kernel_rfl) ?_ ?_
      rotate_left
      · go_simp
        (try with_reducible rfl)
      (try simp only [Act.put, List.setIfInBounds_toArray, List.set_cons_zero, List.set_cons_succ])
      refine WS.val (v := ?_) (by kernel_rfl) ?_ ?_
      rotate_left
      · go_simp
        (try with_reducible rfl)
      (try simp only [Act.put, List.setIfInBounds_toArray, List.set_cons_zero, List.set_cons_succ])
      refine WS.val (v := ?_) (by kernel_rfl) ?_ ?_
      rotate_left
      · go_simp
        (try with_reducible rfl)
      (try simp only [Act.put, List.setIfInBounds_toArray, List.set_cons_zero, List.set_cons_succ])
      refine WS.val (v := ?_) (by kernel_rfl) ?_ ?_
      rotate_left
      · go_simp
        (try with_reducible rfl)
      (try simp only [Act.put, List.setIfInBounds_toArray, List.set_cons_zero, List.set_cons_succ])
      refine WS.val (v := ?_) (by kernel_rfl) ?_ ?_
      rotate_left
      · go_simp
        (try with_reducible rfl)
      (try simp only [Act.put, List.setIfInBounds_toArray, List.set_cons_zero, List.set_cons_succ])
      refine WS.val (v := ?_) (by kernel_rfl) ?_ ?_
      rotate_left
      · go_simp
        (try with_reducible rfl)
      (try simp only [Act.put, List.setIfInBounds_toArray, List.set_cons_zero, List.set_cons_succ])
      refine WS.val (v := ?_) (by kernel_rfl) ?_ ?_
      rotate_left
      · go_simp
        (try with_reducible rfl)
      (try simp only [Act.put, List.setIfInBounds_toArray, List.set_cons_zero, List.set_cons_succ])
      refine WS.val (v := ?_) (by kernel_rfl) ?_ ?_
      rotate_left
      · go_simp
        (try with_reducible rfl)
      (try simp only [Act.put, List.setIfInBounds_toArray, List.set_cons_zero, List.set_cons_succ])
      refine WS.val (v := ?_) (by kernel_rfl) ?_ ?_
      rotate_left
      · go_simp
        (try with_reducible rfl)
      (try simp only [Act.put, List.setIfInBounds_toArray, List.set_cons_zero, List.set_cons_succ])
      refine WS.val (v := ?_) (by kernel_rfl) ?_ ?_
      rotate_left
      · go_simp
        (try with_reducible rfl)
      (try simp only [Act.put, List.setIfInBounds_toArray, List.set_cons_zero, List.set_cons_succ])
      refine WS.val (v := ?_) (by kernel_rfl) ?_ ?_
      rotate_left
      · go_simp
        (try with_reducible rfl)
      (try simp only [Act.put, List.setIfInBounds_toArray, List.set_cons_zero, List.set_cons_succ])
      refine WS.val (v := ?_) (by kernel_rfl) ?_ ?_
      rotate_left
      · go_simp
        (try with_reducible rfl)
      (try simp only [Act.put, List.setIfInBounds_toArray, List.set_cons_zero, List.set_cons_succ])
      refine WS.val (by kernel_rfl) (exec_convO (x := .tmp 110) rfl rfl HC3.out) ?_
      (try simp only [Act.put, List.setIfInBounds_toArray, List.set_cons_zero, List.set_cons_succ])
      refine WS.val (v := ?_) (by kernel_rfl) ?_ ?_
      rotate_left
      · go_simp
        (try with_reducible rfl)
      (try simp only [Act.put, List.setIfInBounds_toArray, List.set_cons_zero, List.set_cons_succ])
      refine WS.val (v := ?_) (by kernel_rfl) ?_ ?_
      rotate_left
      · go_simp
        (try with_reducible rfl)
      (try simp only [Act.put, List.setIfInBounds_toArray, List.set_cons_zero, List.set_cons_succ])
      refine WS.val (v := ?_) (by kernel_rfl) ?_ ?_
      rotate_left
      · go_simp
        (try with_reducible rfl)
      (try simp only [Act.put, List.setIfInBounds_toArray, List.set_cons_zero, List.set_cons_succ])
      refine WS.val (v := ?_) (by kernel_rfl) ?_ ?_
      rotate_left
      · go_simp
        (try with_reducible rfl)
      (try simp only [Act.put, List.setIfInBounds_toArray, List.set_cons_zero, List.set_cons_succ])
      refine WS.val (by kernel_rfl) (exec_convO (x := .tmp 115) rfl rfl HC4.out) ?_
      (try simp only [Act.put, List.setIfInBounds_toArray, List.set_cons_zero, List.set_cons_succ])
      refine WS.val (v := ?_) (by kernel_rfl) ?_ ?_
      rotate_left
      · go_simp
        (try with_reducible rfl)
      (try simp only [Act.put, List.setIfInBounds_toArray, List.set_cons_zero, List.set_cons_succ])
      refine WS.val (v := ?_) (by kernel_rfl) ?_ ?_
      rotate_left
      · go_simp
        (try with_reducible rfl)
      (try simp only [Act.put, List.setIfInBounds_toArray, List.set_cons_zero, List.set_cons_succ])
      refine WS.nil ?_
      clear hd0 d4 d5 u4 u5 r1 r2 r3 r4 r5 r6 HC1 HC2 HC3 HC4 HQ1 HQ3 HQ4 HSS
      go_wp2_with fail
      go_loopw [10, 13] (fun v x wr => ∃ (k : Nat) (vs : Value), 8 ≤ k ∧ k ≤ 64 ∧ x = .int .i64 (k : Int) ∧ vs = v ∧ JG w2 vs (min (56 * v4 + (k - 8)) sz) (bodyF G) wr ∧ (∀ j, j < k → G v4 j = frF s sz (bodyF G) v4 j)) (fun _ x _ => 64 - (intOf x).toNat)
      case atStart => exact ⟨8, _, Nat.le_refl _, by decide, rfl, rfl, HXD.out, HHD.out⟩
      case round =>
        clear HXD HHD
        obtain ⟨k, vs, hk8, hk64, rfl, rfl, hG, hall⟩ := hrel
        have HGW := Lib.hid hG
        have HBW2 := Lib.hid (HB3.out.trans (hG.o.mono HB3.out.size))
        have HALL := Lib.hid hall
        obtain ⟨oa, cap, rfl, _, hcap, _⟩ := hG.g.bytesC (fun j hj => by
          unfold bodyF
          have hj2 : j < sz := by omega
          obtain ⟨_, _, _, _, _, _, _, hb9, _, _⟩ := HA.out w (Below.refl _ _) (j / 56) (by have := HK.out; omega)
          by_cases e : j / 56 < v4
          · exact (hb9 (8 + j % 56) (by rw [(HL.out _ e).1]; omega)).1
          · have e2 : j / 56 = v4 := by omega
            rw [e2]; exact HBB.out.1 _ (by omega))
        clear hG hall hcap
        by_cases hlk : k < 64
        · have p1 : (k : Int) < 64 := by omega
          have p0 : (0 : Int) ≤ (k : Int) := by omega
          have p2 : IntKind.i64.wrap ((k : Int) + 1) = ((k + 1 : Nat) : Int) := by rw [IntWalk.i64_in _ (by omega)]; omega
          have HJ := Lib.hid (show 8 ≤ k ∧ k < 64 from ⟨hk8, hlk⟩)
          obtain ⟨hb8, _, _, e8, hc⟩ := (HBP.out _ HBW2.out) k hlk
          cases e8
          obtain ⟨y, hy⟩ : ∃ x, G v4 k = x := ⟨_, rfl⟩
          rw [hy] at hb8 hc
          have HGY := Lib.hid hy
          obtain ⟨m, hm⟩ : ∃ x, min (56 * v4 + (k - 8)) sz = x := ⟨_, rfl⟩
          have HM := Lib.hid hm
          rw [hm] at HGW ⊢
          by_cases hlm : 56 * v4 + (k - 8) < sz
          · have p3 : (m : Int) < (sz : Int) := by omega
            obtain ⟨ww, hww⟩ : ∃ x, wr.alloc (.cells #[.int .u8 (y : Int)] 5) = x := ⟨_, rfl⟩
            have hbx : Below wr.heap.size wr ww := by rw [← hww]; exact (Below.refl _ _).alloc (Nat.le_refl _) _
            have HOB : Hid (Bytes ww (some ⟨wr.heap.size, 0, none⟩) 1 (fun _ => y)) := Lib.hid (by rw [← hww]; exact one_byte hb8)
            have HGB : Hid (JG w2 (.slice oa m cap) m (bodyF G) ww) := Lib.hid (HGW.out.later hbx)
            have HNX : Hid (∀ t, t < m + 1 → catF m (bodyF G) (fun _ => y) t = bodyF G t) := Lib.hid fun t ht => by
              unfold catF
              by_cases e : t < m
              · rw [if_pos e]
              · rw [if_neg e, ← hy]
                unfold bodyF
                have := HJ.out
                rw [show t / 56 = v4 by omega, show 8 + t % 56 = k by omega]
            have HJ9 : Hid (m + 1 < 100000000000000) := Lib.hid (by have := HC.out; omega)
            have HALL2 : Hid (∀ j, j < k + 1 → G v4 j = frF s sz (bodyF G) v4 j) := Lib.hid fun j hj => by
              by_cases e : j < k
              · exact HALL.out j e
              · obtain rfl : j = k := by omega
                have := HJ.out
                rw [frF_hi _ _ _ _ _ this.1, if_pos hlm]
                unfold bodyF
                rw [show (56 * v4 + (j - 8)) / 56 = v4 by omega, show 8 + (56 * v4 + (j - 8)) % 56 = j by omega]
            have HM2 : Hid (min (56 * v4 + (k + 1 - 8)) sz = m + 1) := Lib.hid (by have := HJ.out; omega)
            clear hlm hlk hk8 hk64 hy hm hb8 hbx
            go_wp2_with (at_builtin; refine wpList_appO rfl (.tmp 127) (.tmp 132) rfl w2.heap.size (.slice oa m cap) m 1 1 (some ⟨wr.heap.size, 0, none⟩) (bodyF G) (fun _ => y) ww rfl HGB.out.g rfl (fun e => by cases e) HOB.out HJ9.out HGB.out.o.size ?_; intro v2 w3 hG hg hob; have HX2 := Lib.hid (HGB.out.grew hg (hG.congr HNX.out)); clear hG hg hob hww)
            go_roundw
            case rel => exact ⟨k + 1, v2, by have := HJ.out; omega, HJ.out.2, by first | rfl | go_num, rfl, by rw [HM2.out]; exact HX2.out, HALL2.out⟩
            case measure => have := HJ.out; simp [intOf]; omega
          · have p3 : ¬ (m : Int) < (sz : Int) := by omega
            by_cases hyz : y = 0
            · have HALL2 : Hid (∀ j, j < k + 1 → G v4 j = frF s sz (bodyF G) v4 j) := Lib.hid fun j hj => by
                by_cases e : j < k
                · exact HALL.out j e
                · obtain rfl : j = k := by omega
                  have := HJ.out
                  rw [frF_hi _ _ _ _ _ this.1, if_neg hlm, hy, hyz]
              have HM2 : Hid (min (56 * v4 + (k + 1 - 8)) sz = m) := Lib.hid (by have := HJ.out; omega)
              subst hyz
              clear hlm hlk hk8 hk64 hy hm hb8
              go_wp2_with fail
              go_roundw
              case rel => exact ⟨k + 1, _, by have := HJ.out; omega, HJ.out.2, by first | rfl | go_num, rfl, by rw [HM2.out]; exact HGW.out, HALL2.out⟩
              case measure => have := HJ.out; simp [intOf]; omega
            · have HN : Hid (¬ JoinP q L G) := Lib.hid fun h => hyz (by
                rw [← hy, h.all v4 (by rw [HC.out.1]; exact HI.out) k hlk, frF_hi _ _ _ _ _ hk8, HC.out.2.1, if_neg hlm])
              have p4 : ¬ (y : Int) = 0 := by omega
              have p5 : decide ((y : Int) = 0) = false := decide_eq_false p4
              have p6 : ((y : Int) != 0) = true := by simpa using p4
              clear hlm hlk hk8 hk64 hy hm hb8 hyz
              go_wp2_with fail
              (try simp only [Exit.inBlock, Exit.then]); refine bodyPost_ret (results_tmp4 rfl _ _ _) rfl ?_
              exact .err HN.out HBW2.out
        · obtain rfl : k = 64 := by omega
          have HX5 : Hid (JG w2 (.slice oa (min (56 * (v4 + 1)) sz) cap) (min (56 * (v4 + 1)) sz) (bodyF G) wr) := Lib.hid (by have := HGW.out; rw [show 56 * v4 + (64 - 8) = 56 * (v4 + 1) by omega] at this; exact this)
          have HL5 : Hid (∀ j, j < v4 + 1 → L j = 64 ∧ ∀ k, k < 64 → G j k = frF s sz (bodyF G) j k) := Lib.hid fun j hj => by
            by_cases e : j < v4
            · exact HL.out j e
            · obtain rfl : j = v4 := by omega
              exact ⟨HLI.out, HALL.out⟩
          obtain ⟨mm, hmm⟩ : ∃ x, min (56 * v4 + (64 - 8)) sz = x := ⟨_, rfl⟩
          have HMM : Hid (min (56 * (v4 + 1)) sz = mm) := Lib.hid (by omega)
          rw [HMM.out] at HX5
          rw [hmm]
          clear hlk hk8 hk64 HGW hmm
          go_wp2_with fail
          go_roundw
          case rel => exact ⟨v4 + 1, _, HI.out, by first | rfl | go_num, rfl, HL5.out, by rw [HMM.out]; exact HX5.out⟩
          case measure => have := HI.out; simp [intOf]; omega
    · obtain rfl : i = x5 := by omega
      have i1 : ¬ (i : Int) < (i : Int) := by omega
      have HJ : Hid (JoinP q L G) := Lib.hid (by
        obtain ⟨k1, k2, k3, k4, k5, k6⟩ := HK.out
        obtain ⟨e1, e2, e3, e4, e5⟩ := HC.out
        exact ⟨by omega, H64.out, by rw [e2]; exact k3, by rw [e1, e2]; exact k4, by rw [e1]; exact k2, fun j hj => (HL.out j (by rw [e1] at hj; exact hj)).1, by rw [e4]; exact HS0.out, fun j hj k hk => by rw [e1] at hj; rw [e4, e2]; exact (HL.out j hj).2 k hk⟩)
      have hmin : min (56 * i) sz = sz := by have := HK.out; omega
      have hG := HX.out.g
      rw [hmin] at hG
      obtain ⟨oa, cap, rfl, hBY, hcap, hnn⟩ := hG.bytesC (fun j hj => by
        unfold bodyF
        obtain ⟨_, _, _, _, _, _, _, hb9, _, _⟩ := HA.out w (Below.refl _ _) (j / 56) (by have := HK.out; omega)
        exact (hb9 (8 + j % 56) (by rw [(HL.out (j / 56) (by have := HK.out; omega)).1]; omega)).1)
      have HR := Lib.hid (show Bytes wo oa sz (bodyF G) ∧ (oa = none → sz = 0) ∧ Below w.heap.size w wo from ⟨hBY, hnn, HB3.out.trans (HX.out.o.mono HB3.out.size)⟩)
      clear hlt hi hmin hG hBY hcap hnn HX
      go_wp2_with fail
      (try simp only [Exit.inBlock, Exit.then]); refine bodyPost_ret (results_tmp4 rfl _ _ _) rfl ?_
      refine ⟨HR.out.2.2, .inl ⟨HJ.out, oa, cap, ?_, ?_, ?_⟩⟩
      · rw [HC.out.1, HC.out.2.1, HC.out.2.2.2.1]; rfl
      · rw [HC.out.2.1]; exact HR.out.1
      · rw [HC.out.2.1]; exact HR.out.2.1
end Go.Proofs.YtfbbnffinlebbaaDoor
