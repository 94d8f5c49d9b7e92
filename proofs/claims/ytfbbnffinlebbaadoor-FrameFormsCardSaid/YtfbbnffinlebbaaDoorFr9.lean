/- A record's sectors, as the document tells them. -/
import Derived.Test.YtfbbnffinlebbaaDoorFr8
import Derived.Test.YtfbbnffinlebbaaDoorRry
namespace Go.Proofs.YtfbbnffinlebbaaDoor
set_option linter.unusedVariables false
set_option linter.unusedSimpArgs false
open Go.RowKit

theorem Grow.lit (w : World) (n : Nat) (f : Nat → Nat) (cs : Array Value) (h : cs.toList = rowC n f) (hn : n ≤ maxLen) : Grow (w.alloc (.cells cs 5)) w.heap.size (.slice (some ⟨w.heap.size, 0, none⟩) n n) n f :=
  ⟨by rw [rowC_len, Nat.mul_one], .inr ⟨w.heap.size, n, cs, rfl, Nat.le_refl _, Blk.new _ _ _, Nat.le_refl _, hn, by rw [← Array.length_toList, h, rowC_len, Nat.mul_one], by rw [h]; exact List.take_of_length_le (by rw [rowC_len]; omega)⟩⟩
theorem row8 (f : Nat → Nat) : rowC 8 f = [.int .u8 (f 0 : Nat), .int .u8 (f 1 : Nat), .int .u8 (f 2 : Nat), .int .u8 (f 3 : Nat), .int .u8 (f 4 : Nat), .int .u8 (f 5 : Nat), .int .u8 (f 6 : Nat), .int .u8 (f 7 : Nat)] := rfl
theorem bs8_run (a0 a1 a2 a3 a4 a5 a6 a7 : Int) (w : World) : (Instr.buildSlice 23 8 #[(0, .int .u8 a0), (1, .int .u8 a1), (2, .int .u8 a2), (3, .int .u8 a3), (4, .int .u8 a4), (5, .int .u8 a5), (6, .int .u8 a6), (7, .int .u8 a7)]).run Tryd.prog w = .ok (.slice (some ⟨w.heap.size, 0, none⟩) 8 8) (w.alloc (.cells #[.int .u8 a0, .int .u8 a1, .int .u8 a2, .int .u8 a3, .int .u8 a4, .int .u8 a5, .int .u8 a6, .int .u8 a7] 5)) := by kernel_rfl
theorem wpList_bs8 {ops : Array Oper} {rest : List Oper} {o : Oper} {a : Act} {w : World} {Q : Exit → Act → World → Prop} (hgd : o.guard = none) (x0 x1 x2 x3 x4 x5 x6 x7 : Operand) (ho : o.op = .buildSlice 23 8 #[(0, x0), (1, x1), (2, x2), (3, x3), (4, x4), (5, x5), (6, x6), (7, x7)]) (a0 a1 a2 a3 a4 a5 a6 a7 : Int) (h0 : a.eval x0 = .int .u8 a0) (h1 : a.eval x1 = .int .u8 a1) (h2 : a.eval x2 = .int .u8 a2) (h3 : a.eval x3 = .int .u8 a3) (h4 : a.eval x4 = .int .u8 a4) (h5 : a.eval x5 = .int .u8 a5) (h6 : a.eval x6 = .int .u8 a6) (h7 : a.eval x7 = .int .u8 a7)
    (hk : wpList Tryd.prog ops Q rest (a.put o.dst (.slice (some ⟨w.heap.size, 0, none⟩) 8 8)) (w.alloc (.cells #[.int .u8 a0, .int .u8 a1, .int .u8 a2, .int .u8 a3, .int .u8 a4, .int .u8 a5, .int .u8 a6, .int .u8 a7] 5))) : wpList Tryd.prog ops Q (o :: rest) a w := by
  refine wpList_plain hgd fun K hK => ?_
  have e : (#[(((0 : Nat), x0) : Nat × Operand), (((1 : Nat), x1) : Nat × Operand), (((2 : Nat), x2) : Nat × Operand), (((3 : Nat), x3) : Nat × Operand), (((4 : Nat), x4) : Nat × Operand), (((5 : Nat), x5) : Nat × Operand), (((6 : Nat), x6) : Nat × Operand), (((7 : Nat), x7) : Nat × Operand)].map fun (i, x) => (i, a.eval x)) = #[(0, .int .u8 a0), (1, .int .u8 a1), (2, .int .u8 a2), (3, .int .u8 a3), (4, .int .u8 a4), (5, .int .u8 a5), (6, .int .u8 a6), (7, .int .u8 a7)] := by simp [h0, h1, h2, h3, h4, h5, h6, h7]
  unfold Oper.wp execOp
  simp only [ho, e, bs8_run, Sem.run_bind, Result.andThen_ok]
  exact hK _ _ hk
set_option maxRecDepth 100000 in
set_option maxHeartbeats 2000000 in
theorem rsplit_err (s n : Nat) (ob : Option Addr) (cb : Nat) (w : World) (hn : n ≤ maxLen) (h : s = 0 ∨ 14280 < n) :
    Calls Tryd.prog 9 #[.int .u32 (s : Int), .slice ob n cb] w fun e w' => e = .returned (.tuple #[.slice none 0 0, .int .i64 1]) ∧ Below w.heap.size w w' := by
  unfold maxLen at hn
  have hse := rsectors_any n w (by omega)
  have hn0 : (n : Int) ≤ 9223372036854775807 := by omega
  by_cases h0 : s = 0
  · subst h0
    obtain ⟨y, hy⟩ : ∃ y, secO n = y := ⟨_, rfl⟩
    rw [hy] at hse
    clear h hy
    go_enter Tryd.func9, Tryd.ntmps9
    go_wp2_with fail
    refine hse.mono ?_
    rintro e w1 ⟨rfl, hb⟩
    have HB := Lib.hid hb
    clear hse hb
    go_wp2_with fail
    go_ret2
    exact ⟨rfl, HB.out⟩
  · have h1 : ¬ (s : Int) = 0 := by omega
    have h2 : decide ((s : Int) = 0) = false := decide_eq_false h1
    rw [show secO n = 0 from if_neg (by omega)] at hse
    clear h h0
    go_enter Tryd.func9, Tryd.ntmps9
    go_wp2_with fail
    refine hse.mono ?_
    rintro e w1 ⟨rfl, hb⟩
    have HB := Lib.hid hb
    clear hse hb
    go_wp2_with fail
    go_ret2
    exact ⟨rfl, HB.out⟩
set_option maxRecDepth 100000 in
set_option maxHeartbeats 8000000 in
theorem rsplit_any (s n : Nat) (ob : Option Addr) (cb : Nat) (B : Nat → Nat) (w : World) (h0 : s ≠ 0) (hs : s < 4294967296) (hB : Bytes w ob n B) (hno : ob = none → n = 0) (hnc : n ≤ cb) (hn : n ≤ 14280) :
    Calls Tryd.prog 9 #[.int .u32 (s : Int), .slice ob n cb] w fun e w' => ∃ o c, e = .returned (.tuple #[.slice o (secN n) c, .int .i64 0]) ∧ LBs w' o (secN n) (fun _ => 64) (frF s n B) ∧ Below w.heap.size w w' := by
  have h1 : ¬ (s : Int) = 0 := by omega
  have h2 : decide ((s : Int) = 0) = false := decide_eq_false h1
  have h3 : ((s : Int) == 0) = false := by simpa using h1
  have hse := rsectors_any n w (by omega)
  rw [show secO n = secN n from if_pos hn] at hse
  have hq1 := secN_pos n
  have hq2 := secN_le hn
  obtain ⟨q, hq⟩ : ∃ x, secN n = x := ⟨_, rfl⟩
  rw [hq] at hse hq1 hq2 ⊢
  have HQ := Lib.hid hq
  have HN := Lib.hid (show s < 4294967296 ∧ n ≤ 14280 ∧ n ≤ cb ∧ (ob = none → n = 0) ∧ q ≤ 255 ∧ 1 ≤ q from ⟨hs, hn, hnc, hno, hq2, hq1⟩)
  have HB : Hid (∀ w', Below w.heap.size w w' → Bytes w' ob n B) := Lib.hid fun w' h => hB.later h
  have q0 : ¬ (q : Int) = 0 := by omega
  have q1 : decide ((q : Int) = 0) = false := decide_eq_false q0
  have q2 : ((q : Int) == 0) = false := by simpa using q0
  have hn0 : (n : Int) ≤ 9223372036854775807 := by omega
  clear hB hs h0 hno hnc hn hq hq1 hq2
  go_enter Tryd.func9, Tryd.ntmps9
  go_wp2_with fail
  refine hse.mono ?_
  rintro e w1 ⟨rfl, hb1⟩
  have H1 : Hid (RL w1 w.heap.size (.slice none 0 0) 0 (fun _ => 64) (frF s n B) ∧ Below w.heap.size w w1) := Lib.hid ⟨RL.nil _ _ _ _, hb1⟩
  clear hse hb1
  go_wp2_with fail
  clear h1 h2 h3 q0 q1 q2
  go_loopw [7, 8] (fun v x wr => ∃ (i : Nat) (vb : Value), i ≤ q ∧ x = .int .i64 (i : Int) ∧ vb = v ∧ RL wr w.heap.size vb i (fun _ => 64) (frF s n B) ∧ Below w.heap.size w wr) (fun _ x _ => q - (intOf x).toNat)
  case atStart => exact ⟨0, _, Nat.zero_le _, rfl, rfl, H1.out⟩
  case round =>
    clear H1
    obtain ⟨i, vb, hi, rfl, rfl, hR, hX⟩ := hrel
    have HR := Lib.hid hR
    have HX := Lib.hid hX
    clear hR hX
    generalize wr = wo at *
    by_cases hlt : i < q
    · as_aux_lemma =>
      have i1 : (i : Int) < (q : Int) := by omega
      have hs := HN.out.1
      have hn := HN.out.2.1
      have hq9 := HN.out.2.2.2.2.1
      obtain ⟨z1, hz1⟩ : ∃ x, s / 16777216 = x := ⟨_, rfl⟩
      obtain ⟨z2, hz2⟩ : ∃ x, s / 65536 = x := ⟨_, rfl⟩
      obtain ⟨z3, hz3⟩ : ∃ x, s / 256 = x := ⟨_, rfl⟩
      obtain ⟨r2, hr2⟩ : ∃ x, z2 % 256 = x := ⟨_, rfl⟩
      obtain ⟨r3, hr3⟩ : ∃ x, z3 % 256 = x := ⟨_, rfl⟩
      obtain ⟨r4, hr4⟩ : ∃ x, s % 256 = x := ⟨_, rfl⟩
      obtain ⟨h, hh⟩ : ∃ x, n / 256 = x := ⟨_, rfl⟩
      obtain ⟨r, hr⟩ : ∃ x, n % 256 = x := ⟨_, rfl⟩
      have a1 : (s : Int).tdiv 16777216 = (z1 : Int) := tdk rfl hz1
      have a2 : (s : Int) / 16777216 = (z1 : Int) := by omega
      have a3 : IntKind.u32.wrap (z1 : Int) = (z1 : Int) := IntWalk.u32_in _ (by omega)
      have a4 : IntKind.u8.wrap (z1 : Int) = (z1 : Int) := IntWalk.u8_in _ (by omega)
      have a5 : (z1 : Int) % 256 = (z1 : Int) := by omega
      have b1 : (s : Int).tdiv 65536 = (z2 : Int) := tdk rfl hz2
      have b2 : (s : Int) / 65536 = (z2 : Int) := by omega
      have b3 : IntKind.u32.wrap (z2 : Int) = (z2 : Int) := IntWalk.u32_in _ (by omega)
      have b4 : (z2 : Int).tmod 256 = (r2 : Int) := tmk rfl hr2
      have b5 : (z2 : Int) % 256 = (r2 : Int) := by omega
      have b6 : IntKind.u32.wrap (r2 : Int) = (r2 : Int) := IntWalk.u32_in _ (by omega)
      have b7 : IntKind.u8.wrap (r2 : Int) = (r2 : Int) := IntWalk.u8_in _ (by omega)
      have b8 : (r2 : Int) % 256 = (r2 : Int) := by omega
      have c1 : (s : Int).tdiv 256 = (z3 : Int) := tdk rfl hz3
      have c2 : (s : Int) / 256 = (z3 : Int) := by omega
      have c3 : IntKind.u32.wrap (z3 : Int) = (z3 : Int) := IntWalk.u32_in _ (by omega)
      have c4 : (z3 : Int).tmod 256 = (r3 : Int) := tmk rfl hr3
      have c5 : (z3 : Int) % 256 = (r3 : Int) := by omega
      have c6 : IntKind.u32.wrap (r3 : Int) = (r3 : Int) := IntWalk.u32_in _ (by omega)
      have c7 : IntKind.u8.wrap (r3 : Int) = (r3 : Int) := IntWalk.u8_in _ (by omega)
      have c8 : (r3 : Int) % 256 = (r3 : Int) := by omega
      have d1 : (s : Int).tmod 256 = (r4 : Int) := tmk rfl hr4
      have d2 : (s : Int) % 256 = (r4 : Int) := by omega
      have d3 : IntKind.u32.wrap (r4 : Int) = (r4 : Int) := IntWalk.u32_in _ (by omega)
      have d4 : IntKind.u8.wrap (r4 : Int) = (r4 : Int) := IntWalk.u8_in _ (by omega)
      have d5 : (r4 : Int) % 256 = (r4 : Int) := by omega
      have e1 : IntKind.u8.wrap (i : Int) = (i : Int) := IntWalk.u8_in _ (by omega)
      have e2 : (i : Int) % 256 = (i : Int) := by omega
      have e3 : IntKind.u8.wrap (q : Int) = (q : Int) := IntWalk.u8_in _ (by omega)
      have e4 : (q : Int) % 256 = (q : Int) := by omega
      have f1 : (n : Int).tdiv 256 = (h : Int) := tdk rfl hh
      have f2 : (n : Int) / 256 = (h : Int) := by omega
      have f3 : IntKind.i64.wrap (h : Int) = (h : Int) := IntWalk.i64_in _ (by omega)
      have f4 : IntKind.u8.wrap (h : Int) = (h : Int) := IntWalk.u8_in _ (by omega)
      have f5 : (h : Int) % 256 = (h : Int) := by omega
      have f6 : (n : Int).tmod 256 = (r : Int) := tmk rfl hr
      have f7 : (n : Int) % 256 = (r : Int) := by omega
      have f8 : IntKind.i64.wrap (r : Int) = (r : Int) := IntWalk.i64_in _ (by omega)
      have f9 : IntKind.u8.wrap (r : Int) = (r : Int) := IntWalk.u8_in _ (by omega)
      have g0 : (r : Int) % 256 = (r : Int) := by omega
      obtain ⟨t, ht⟩ : ∃ x, 56 * i = x := ⟨_, rfl⟩
      have t1 : 56 * (i : Int) = (t : Int) := by omega
      have t2 : IntKind.i64.wrap (t : Int) = (t : Int) := IntWalk.i64_in _ (by omega)
      have t3 : IntKind.i64.wrap ((t : Int) + 56) = (t : Int) + 56 := IntWalk.i64_in _ (by omega)
      have t4 : IntKind.i64.wrap ((i : Int) + 1) = ((i + 1 : Nat) : Int) := by rw [IntWalk.i64_in _ (by omega)]; omega
      have HI := Lib.hid (show i < q ∧ 56 * i = t ∧ t < 20000 from ⟨hlt, ht, by omega⟩)
      have hrow : (#[.int .u8 (z1 : Int), .int .u8 (r2 : Int), .int .u8 (r3 : Int), .int .u8 (r4 : Int), .int .u8 (i : Int), .int .u8 (q : Int), .int .u8 (h : Int), .int .u8 (r : Int)] : Array Value).toList = rowC 8 (frF s n B i) := by
        rw [row8, frF_low _ _ _ _ _ (by decide), frF_low _ _ _ _ _ (by decide), frF_low _ _ _ _ _ (by decide), frF_low _ _ _ _ _ (by decide), frF_at4, frF_at5, frF_at6, frF_at7, HQ.out, hh, hr]
        unfold numB
        show _ = [Value.int .u8 ((s / 16777216 % 256 : Nat) : Int), .int .u8 ((s / 65536 % 256 : Nat) : Int), .int .u8 ((s / 256 % 256 : Nat) : Int), .int .u8 ((s / 1 % 256 : Nat) : Int), _, _, _, _]
        rw [Nat.div_one, hz1, hz2, hz3, hr2, hr3, hr4, show z1 % 256 = z1 by omega]
      obtain ⟨w2, hw2⟩ : ∃ x, wo.alloc (.cells #[.int .u8 (z1 : Int), .int .u8 (r2 : Int), .int .u8 (r3 : Int), .int .u8 (r4 : Int), .int .u8 (i : Int), .int .u8 (q : Int), .int .u8 (h : Int), .int .u8 (r : Int)] 5) = x := ⟨_, rfl⟩
      have H2 : Hid (JG wo (.slice (some ⟨wo.heap.size, 0, none⟩) 8 8) 8 (frF s n B i) w2) := Lib.hid (by
        rw [← hw2]; exact ⟨Grow.lit wo 8 _ _ hrow (by unfold maxLen; omega), (Below.refl _ _).alloc (Nat.le_refl _) _⟩)
      clear hs hn hq9 hz1 hz2 hz3 hr2 hr3 hr4 hh hr ht hrow hlt hi
      go_wp2_with (refine wpList_bs8 rfl (.tmp 27) (.tmp 31) (.tmp 35) (.tmp 38) (.tmp 40) (.tmp 42) (.tmp 46) (.tmp 50) rfl z1 r2 r3 r4 i q h r rfl rfl rfl rfl rfl rfl rfl rfl ?_; rw [hw2])
      clear a1 a2 a3 a4 a5 b1 b2 b3 b4 b5 b6 b7 b8 c1 c2 c3 c4 c5 c6 c7 c8 d1 d2 d3 d4 d5 e1 e2 e3 e4 f1 f2 f3 f4 f5 f6 f7 f8 f9 g0 hw2
      go_loopw [9, 10] (fun v x wv => ∃ (j : Nat) (vs : Value), j ≤ 56 ∧ x = .int .i64 ((t + j : Nat) : Int) ∧ vs = v ∧ JG wo vs (8 + j) (frF s n B i) wv) (fun _ x _ => t + 56 - (intOf x).toNat)
      case atStart => exact ⟨0, _, Nat.zero_le _, by first | rfl | go_num, rfl, H2.out⟩
      case round =>
        clear H2
        obtain ⟨j, v, hj, rfl, rfl, hG⟩ := hrel
        have HGW := Lib.hid hG
        clear hG
        obtain ⟨p, hp⟩ : ∃ x, t + j = x := ⟨_, rfl⟩
        rw [hp]
        by_cases hlj : j < 56
        · have p1 : (p : Int) < (t : Int) + 56 := by omega
          have p0 : (0 : Int) ≤ (p : Int) := by omega
          have p2 : IntKind.i64.wrap ((p : Int) + 1) = ((p + 1 : Nat) : Int) := by have := HI.out; rw [IntWalk.i64_in _ (by omega)]; omega
          have HJ := Lib.hid (show j < 56 ∧ t + j = p from ⟨hlj, hp⟩)
          have HJ9 : Hid (8 + j + 1 < 100000000000000) := Lib.hid (by omega)
          clear hlj hj hp
          by_cases hpn : p < n
          · have p3 : (p : Int) < (n : Int) := by omega
            obtain ⟨hb8, bb, bo, rfl, hc⟩ := (HB.out _ (HX.out.trans (HGW.out.o.mono HX.out.size))) p hpn
            obtain ⟨y, hy⟩ : ∃ x, B p = x := ⟨_, rfl⟩
            rw [hy] at hb8 hc
            obtain ⟨ww, hww⟩ : ∃ x, wr.alloc (.cells #[.int .u8 (y : Int)] 5) = x := ⟨_, rfl⟩
            have HOB : Hid (Bytes ww (some ⟨wr.heap.size, 0, none⟩) 1 (fun _ => y)) := Lib.hid (by rw [← hww]; exact one_byte hb8)
            have HGB : Hid (JG wo v (8 + j) (frF s n B i) ww) := Lib.hid (HGW.out.later (by rw [← hww]; exact (Below.refl _ _).alloc (Nat.le_refl _) _))
            have HNX : Hid (∀ k, k < 8 + j + 1 → catF (8 + j) (frF s n B i) (fun _ => y) k = frF s n B i k) := Lib.hid fun k hk => by
              unfold catF
              by_cases e : k < 8 + j
              · rw [if_pos e]
              · rw [if_neg e, frF_hi _ _ _ _ _ (by omega), show 56 * i + (k - 8) = p by have := HI.out; have := HJ.out; omega, if_pos hpn, hy]
            clear hpn hy hb8
            go_wp2_with (at_builtin; refine wpList_appO rfl (.tmp 65) (.tmp 70) rfl wo.heap.size v (8 + j) 1 1 (some ⟨wr.heap.size, 0, none⟩) (frF s n B i) (fun _ => y) ww rfl HGB.out.g rfl (fun e => by cases e) HOB.out HJ9.out HGB.out.o.size ?_; intro v2 w2 hG hg hob; have HX2 := Lib.hid (HGB.out.grew hg (hG.congr HNX.out)); clear hG hg hob hww)
            go_roundw
            case rel => exact ⟨j + 1, v2, HJ.out.1, by rw [show t + (j + 1) = p + 1 by have := HJ.out; omega]; first | rfl | go_num, rfl, HX2.out⟩
            case measure => have := HJ.out; simp [intOf]; omega
          · have p3 : ¬ (p : Int) < (n : Int) := by omega
            obtain ⟨ww, hww⟩ : ∃ x, wr.alloc (.cells #[.int .u8 0] 5) = x := ⟨_, rfl⟩
            have HOB : Hid (Bytes ww (some ⟨wr.heap.size, 0, none⟩) 1 (fun _ => 0)) := Lib.hid (by rw [← hww]; exact one_u8 rfl (by decide))
            have HGB : Hid (JG wo v (8 + j) (frF s n B i) ww) := Lib.hid (HGW.out.later (by rw [← hww]; exact (Below.refl _ _).alloc (Nat.le_refl _) _))
            have HNX : Hid (∀ k, k < 8 + j + 1 → catF (8 + j) (frF s n B i) (fun _ => 0) k = frF s n B i k) := Lib.hid fun k hk => by
              unfold catF
              by_cases e : k < 8 + j
              · rw [if_pos e]
              · rw [if_neg e, frF_hi _ _ _ _ _ (by omega), if_neg (by have := HI.out; have := HJ.out; omega)]
            clear hpn
            go_wp2_with (at_builtin; refine wpList_appO rfl (.tmp 72) (.tmp 73) rfl wo.heap.size v (8 + j) 1 1 (some ⟨wr.heap.size, 0, none⟩) (frF s n B i) (fun _ => 0) ww rfl HGB.out.g rfl (fun e => by cases e) HOB.out HJ9.out HGB.out.o.size ?_; intro v2 w2 hG hg hob; have HX2 := Lib.hid (HGB.out.grew hg (hG.congr HNX.out)); clear hG hg hob hww)
            go_roundw
            case rel => exact ⟨j + 1, v2, HJ.out.1, by rw [show t + (j + 1) = p + 1 by have := HJ.out; omega]; first | rfl | go_num, rfl, HX2.out⟩
            case measure => have := HJ.out; simp [intOf]; omega
        · obtain rfl : j = 56 := by omega
          have p1 : ¬ (p : Int) < (t : Int) + 56 := by omega
          have hHI := HI.out
          obtain ⟨g, c, rfl, hge, hBG, hc1, hc2⟩ := HGW.out.g.someN (by omega) (fun k hk => frF_lt HN.out.2.1 (by rw [HQ.out]; exact hHI.1) (fun y hy => ((HB.out w (Below.refl _ _)) y hy).1))
          obtain ⟨ww, hww⟩ : ∃ x, wr.alloc (.cells #[.slice (some ⟨g, 0, none⟩) 64 c] 23) = x := ⟨_, rfl⟩
          have hbw : Below wr.heap.size wr ww := by rw [← hww]; exact (Below.refl _ _).alloc (Nat.le_refl _) _
          have hbo : Below wo.heap.size wo ww := HGW.out.o.trans (hbw.mono HGW.out.o.size)
          have hcb : ww.cell? ⟨wr.heap.size, 0, none⟩ = some (.slice (some ⟨g, 0, none⟩) 64 c) := by rw [← hww, Blk.cell (Blk.new _ _ _)]; rfl
          have HRB := Lib.hid (HR.out.later hbo)
          have HXB := Lib.hid (HX.out.trans (hbo.mono HX.out.size))
          have HLB : Hid (LBy ww vb (some ⟨wr.heap.size, 0, none⟩) 1 (fun _ => 64) (fun _ => frF s n B i)) := Lib.hid fun i' hi' => by
            obtain rfl : i' = 0 := by omega
            refine ⟨wr.heap.size, 0, some ⟨g, 0, none⟩, c, rfl, hcb, hc1, hBG.later hbw, (fun e => by cases e), hc2, fun a ha hl e2 => ?_⟩
            cases ha
            have : g < wo.heap.size := (HR.out.lt _ e2).2
            omega
          have HI9 : Hid (i + 1 < 1000000000000) := Lib.hid (by omega)
          have HBS : Hid (w.heap.size ≤ ww.heap.size) := Lib.hid HXB.out.size
          clear hge hBG hc1 hc2 hbw hbo hcb hlj hj hp hHI
          go_wp2_with (at_builtin; refine wpList_appRy rfl (.tmp 75) (.tmp 77) rfl w.heap.size vb i 1 1 (fun _ => 64) (fun _ => 64) (frF s n B) (fun _ => frF s n B i) (some ⟨wr.heap.size, 0, none⟩) ww rfl HRB.out rfl HLB.out (fun e => by cases e) HI9.out HBS.out ?_)
          intro v2 w5 hR5 hb5
          have H5 : Hid (RL w5 w.heap.size v2 (i + 1) (fun _ => 64) (frF s n B) ∧ Below w.heap.size w w5) := Lib.hid ⟨hR5.congr (fun _ _ => by unfold catL; split <;> rfl) (fun k hk => by
            unfold catG
            by_cases e : k < i
            · rw [if_pos e]
            · rw [if_neg e, show k = i by omega]), HXB.out.trans hb5⟩
          clear hR5 hb5 hww
          go_wp2_with fail
          go_roundw
          case rel => exact ⟨i + 1, v2, HI.out.1, by first | rfl | go_num, rfl, H5.out⟩
          case measure => have := HI.out; simp [intOf]; omega
    · obtain rfl : i = q := by omega
      have i1 : ¬ (i : Int) < (i : Int) := by omega
      clear hlt hi
      obtain ⟨oa, cap, rfl, hc1, hc2, hLB, hno⟩ := HR.out.lbs
      have HLB := Lib.hid hLB
      clear hc1 hc2 hLB hno
      go_wp2_with fail
      go_ret2
      exact ⟨oa, ⟨cap, rfl⟩, HLB.out, HX.out⟩
end Go.Proofs.YtfbbnffinlebbaaDoor
