/- Part of the proof: what stands here serves the walks of the functions that the statement calls. -/
import Derived.Test.YtncfocjmdecapaaGreatDoorY03
import Derived.Test.YtncfocjmdecapaaGreatDoorY04
namespace Go.Proofs.YtncfocjmdecapaaGreatDoor
set_option linter.unusedVariables false
set_option linter.unusedSimpArgs false
open Go.RowKit
set_option maxRecDepth 100000
set_option maxHeartbeats 8000000
theorem grow_bel {w w' : World} {base n : Nat} {v : Value} {f : Nat → Nat} (hG : Grow w base v n f) (hs : base ≤ w.heap.size) (hg : w.grownBy w' v.ownBlock) : Below base w w' := by
 refine (own_of_grown hg).below ?_ hs
 cases e : v.ownBlock with
 | none => simp; exact hs
 | some b => simp; exact (hG.lt b e).1
theorem wrap_big {i k n : Nat} {m : Int} (hm : m = (n : Int)) (h : i + n = k) (hk : k < 9000000000000000000) : IntKind.i64.wrap ((i : Int) + m) = (k : Int) := by subst hm; rw [IntWalk.i64_in _ (by omega)]; omega
theorem WB.range {t : TypeId} {n g : Nat} {f : Nat → Nat} {w : World} (h : WB t n g f w) : w.rangeAt g 0 (rowW n f) := fun j v hv => by
 rw [Nat.zero_add, Blk.cell h j]; simpa using hv
structure RM (w0 : World) (q : Nat) (f : Nat → Nat) (v : Value) (wr : World) : Prop where
 r : RB 22 32 w0.heap.size (fun _ => 0) wr
 m : Grow wr (w0.heap.size + 1) v q f
 o : Below w0.heap.size w0 wr
 s : w0.heap.size + 1 ≤ wr.heap.size
theorem RM.later {w0 wr w' : World} {q : Nat} {f : Nat → Nat} {v : Value} (h : RM w0 q f v wr) (hb : Below wr.heap.size wr w') : RM w0 q f v w' :=
 ⟨Blk.below h.r hb (Blk.lt h.r), h.m.later hb, h.o.trans (hb.mono h.o.size), Nat.le_trans h.s hb.size⟩
theorem RM.grew {w0 wr w' : World} {q q' : Nat} {f f' : Nat → Nat} {v v' : Value} (h : RM w0 q f v wr) (hg : wr.grownBy w' v.ownBlock) (hG : Grow w' (w0.heap.size + 1) v' q' f') : RM w0 q' f' v' w' :=
 have hb := grow_bel h.m h.s hg
 ⟨Blk.below h.r hb (Nat.lt_succ_self _), hG, h.o.trans (hb.mono (Nat.le_succ _)), Nat.le_trans h.s hg.size⟩
theorem RM.congr {w0 wr : World} {q : Nat} {f f' : Nat → Nat} {v : Value} (h : RM w0 q f v wr) (he : ∀ i, i < q → f i = f' i) : RM w0 q f' v wr := ⟨h.r, h.m.congr he, h.o, h.s⟩
theorem cat1 {Pd : Nat → Nat} {q x : Nat} (hx : Pd q = x) : ∀ i, i < q + 1 → catF q Pd (fun _ => x) i = Pd i := catF_self fun i hi => by
 obtain rfl : i = 0 := by omega
 exact hx.symm
theorem padN_lt (n : Nat) (F : Nat → Nat) (h : ∀ i, i < n → F i < 256) : ∀ i, padN n F i < 256 := fun i => by
 unfold padN
 split
 ·exact h i ‹_›
 ·split
  ·decide
  ·split
   ·decide
   ·exact numB_lt _ _ _
structure RH (w0 : World) (gh mb mo N : Nat) (Pd V : Nat → Nat) (wr : World) : Prop where
 r : RB 22 32 w0.heap.size (fun _ => 0) wr
 m : Bytes wr (some ⟨mb, mo, none⟩) N Pd
 h : WB 149 8 gh V wr
 o : Below w0.heap.size w0 wr
 s : w0.heap.size < gh
 n : mb ≠ gh
theorem RH.later {w0 wr w' : World} {gh mb mo N : Nat} {Pd V : Nat → Nat} (h : RH w0 gh mb mo N Pd V wr) (hb : Below wr.heap.size wr w') : RH w0 gh mb mo N Pd V w' :=
 ⟨Blk.below h.r hb (Blk.lt h.r), h.m.later hb, Blk.below h.h hb (Blk.lt h.h), h.o.trans (hb.mono h.o.size), h.s, h.n⟩
theorem RH.turned {w0 wr : World} {gh mb mo N : Nat} {Pd V : Nat → Nat} (h : RH w0 gh mb mo N Pd V wr) (V' : Nat → Nat) {C : Array Value} (hC : (rowW 8 V').toArray = C) : RH w0 gh mb mo N Pd V' (wr.setCells gh 0 C.toList) := by
 subst hC
 have hO : Own gh wr (wr.setCells gh 0 (rowW 8 V').toArray.toList) := Own.setCells _ _ _
 refine ⟨hO.blk h.r (Nat.ne_of_lt h.s), fun k hk => ?_, Blk.setCells h.h (rowW 8 V') (by rw [rowW_size, rowW_len]), h.o.trans (hO.below (Nat.le_of_lt h.s) h.o.size), h.s, h.n⟩
 obtain ⟨a1, b, off, a2, a3⟩ := h.m k hk
 cases a2
 exact ⟨a1, mb, mo, rfl, hO.cell a3 h.n⟩
structure SE (w0 : World) (gh g1 : Nat) (V D : Nat → Nat) (wr : World) : Prop where
 r : RB 22 32 w0.heap.size (fun _ => 0) wr
 h : WB 149 8 gh V wr
 s : RB 22 32 g1 D wr
 o : Below w0.heap.size w0 wr
 n : gh ≠ g1 ∧ w0.heap.size < g1
theorem SE.set {w0 wr : World} {gh g1 : Nat} {V D : Nat → Nat} (h : SE w0 gh g1 V D wr) (k x : Nat) : SE w0 gh g1 V (upd D k x) (wr.setCell ⟨g1, k, none⟩ (.int .u8 (x : Nat))) :=
 ⟨Blk.set_other h.r (Nat.ne_of_lt h.n.2) _, Blk.set_other h.h h.n.1 _, h.s.set k x, h.o.setCell (Nat.le_of_lt h.n.2) _, h.n⟩
theorem SE.congr {w0 wr : World} {gh g1 : Nat} {V D E : Nat → Nat} (h : SE w0 gh g1 V D wr) (he : ∀ i, i < 32 → D i = E i) : SE w0 gh g1 V E wr := ⟨h.r, h.h, h.s.congr he, h.o, h.n⟩
theorem rsum_any (oa : Option Addr) (n cap : Nat) (F : Nat → Nat) (w : World) (hB : Bytes w oa n F) (hno : oa = none → n = 0) (hn : n < 900000000000) :
    Calls Tryz.prog 53 #[.slice oa n cap] w fun e w' => e = .returned (.agg (rowC 32 (shaN n F)).toArray) ∧ Below w.heap.size w w' := by
  have hz := zero32_run
  have hz8 := zero8w_run
  obtain ⟨wa, hwa⟩ := zX (w.alloc (.cells zero32 22))
  obtain ⟨Pd, hPd⟩ := zX (padN n F)
  obtain ⟨T, hT⟩ := zX (64 * blkN n - 8)
  have HT : Hid (64 * blkN n - 8 = T ∧ n + 1 ≤ T ∧ T % 64 = 56 ∧ T < n + 72 ∧ T + 8 = 64 * blkN n ∧ n < 900000000000 ∧ 64 * ((n + 8) / 64) + 56 = T) := zh (by unfold blkN at hT ⊢; omega)
  have H0 : Hid (RM w 0 (fun _ => 0) (.slice none 0 0) wa ∧ Bytes wa oa n F) := zh (by
    have hb : Below w.heap.size w wa := by rw [← hwa]; exact zA
    exact ⟨⟨by rw [← hwa]; exact Blk.new w _ _, Grow.nil _ _ _, hb, by rw [← hwa]; simp⟩, hB.later hb⟩)
  have HNO := zh hno
  have HPX : Hid (padN n F = Pd) := zh hPd
  have HPL : Hid (∀ i, Pd i < 256) := zh (hPd ▸ padN_lt n F fun i hi => (hB i hi).1)
  have HPF : Hid (∀ i, i < n → F i = Pd i) := zh fun i hi => by rw [← hPd]; exact (if_pos hi).symm
  obtain ⟨D, hD⟩ := zX (shaN n F)
  have HDD : Hid (∀ i, D i = numB (chK Pd (blkN n) (i / 4)) 4 (i % 4)) := zh fun i => by rw [← hD, ← hPd]; rfl
  rw [hD]
  clear hB hno hPd hT hn hD
  go_enter Tryz.func53, Tryz.ntmps53
  go_wp2_with (first
    | (refine wpList_appO rfl (.tmp 10) (.tmp 11) rfl (w.heap.size + 1) (.slice none 0 0) 0 n cap oa (fun _ => 0) F wa rfl H0.out.1.m rfl HNO.out H0.out.2 (by have := HT.out; omega) H0.out.1.s ?_; intro v1 w1 hG1 hg1 hob1; have H1 := zh ((H0.out.1.grew hg1 hG1).later ((Below.refl _ _).alloc (Nat.le_refl _) (.cells #[.int .u8 128] 5))); clear hG1 hg1 hob1)
    | (refine wpList_appO rfl (.tmp 12) (.tmp 13) rfl (w.heap.size + 1) _ (0 + n) 1 1 (some ⟨w1.heap.size, 0, none⟩) (catF 0 (fun _ => 0) F) (fun _ => 128) (w1.alloc (.cells #[.int .u8 128] 5)) rfl H1.out.m rfl (fun h => by cases h) (one_byte (x := 128) (by decide)) (by have := HT.out; omega) H1.out.s ?_; intro v2 w2 hG2 hg2 hob2; have H2 : Hid (RM w (n + 1) Pd v2 w2) := zh ((H1.out.grew hg2 (by simpa using hG2)).congr (fun i hi => (by
        unfold catF
        by_cases e : i < n
        · rw [if_pos (by omega), if_neg (by omega), ← HPF.out i e, Nat.sub_zero]
        · rw [if_neg (by omega)]
          obtain rfl : i = n := by omega
          rw [← HPX.out]; exact (pad_128 _ F).symm))); clear hG2 hg2 hob2 H1))
  clear hwa hz H0 HNO
  go_loopw [3] (fun v wr => ∃ p : Nat, n + 1 ≤ p ∧ p ≤ T ∧ RM w p Pd v wr) (fun v _ => T - lenV v)
  case atStart => exact ⟨n + 1, Nat.le_refl _, HT.out.2.1, H2.out⟩
  case round =>
    clear H2
    obtain ⟨p, hp1, hp2, hS⟩ := hrel
    obtain ⟨om, cm, hvm, hBm, hbm⟩ := hS.m.bytes (fun i _ => HPL.out i)
    subst hvm
    have HS := zh hS
    have HBM := zh hBm
    have HLE : Hid (p ≤ T) := zh hp2
    clear hS hBm hbm
    by_cases hlt : p < T
    · as_aux_lemma =>
      have h56 : p % 64 ≠ 56 := by
        have := HT.out
        omega
      obtain ⟨k, hk⟩ := zX (p % 64)
      have hk1 : ((p : Nat) : Int).tmod 64 = (k : Int) := tmk rfl hk
      have hk2 : ¬ (k : Int) = 56 := by omega
      have hk3 : ((p : Int) % 64) = (k : Int) := by omega
      have HPN : Hid (n + 1 ≤ p ∧ p < T) := zh ⟨hp1, hlt⟩
      have HA : Hid (RM w p Pd (.slice om p cm) (wr.alloc (.cells #[.int .u8 0] 5))) := zh (HS.out.later (zA))
      have HW0 : Hid (Pd p = 0) := zh (by rw [← HPX.out]; exact pad_0 n F (by have := HPN.out; omega) (by rw [HT.out.1]; exact HPN.out.2))
      clear hk h56 hlt hp1 hp2
      go_wp2_with (first | (refine wpList_appO rfl (.tmp 19) (.tmp 20) rfl (w.heap.size + 1) _ p 1 1 (some ⟨wr.heap.size, 0, none⟩) Pd (fun _ => 0) (wr.alloc (.cells #[.int .u8 0] 5)) rfl HA.out.m rfl (fun h => by cases h) (one_byte (x := 0) (by decide)) (by have := HPN.out; have := HT.out; omega) HA.out.s ?_; intro v6 w6 hG6 hg6 hob6; obtain ⟨o6, c6, hv6, _, _⟩ := (hG6.congr (cat1 HW0.out)).bytes (fun i _ => HPL.out i); have H6 : Hid (RM w (p + 1) Pd v6 w6) := zh (HA.out.grew hg6 (hG6.congr (cat1 HW0.out))); subst hv6; clear hG6 hg6 hob6))
      clear HA HS
      go_roundw
      case rel => exact ⟨p + 1, by have := HPN.out; omega, by have := HPN.out; omega, H6.out⟩
      case measure => have := HPN.out; simp [lenV]; omega
    · obtain rfl : p = T := by omega
      have h56 : p % 64 = 56 := HT.out.2.2.1
      have h57 : ((p : Nat) : Int).tmod 64 = 56 := tmk rfl h56
      have h58 : ((p : Int) % 64) = 56 := by omega
      have n8 : IntKind.u64.wrap (n : Int) = (n : Int) := by have := HT.out; simp [IntKind.wrap, IntKind.bits, IntKind.signed]; omega
      obtain ⟨N8, hN8⟩ := zX (8 * n)
      have n9 : IntKind.u64.wrap (8 * (n : Int)) = (N8 : Int) := by have := HT.out; simp [IntKind.wrap, IntKind.bits, IntKind.signed]; omega
      have n10 : (8 : Int) * (n : Int) = (N8 : Int) := by omega
      have n11 : IntKind.u64.wrap (N8 : Int) = (N8 : Int) := by have := HT.out; simp [IntKind.wrap, IntKind.bits, IntKind.signed]; omega
      have HN8 : Hid (8 * n = N8 ∧ N8 < 18446744073709551616) := zh ⟨hN8, by have := HT.out; omega⟩
      clear h56 hlt hp1 hp2 hN8 HLE
      go_wp2_with fail
      clear h57 h58 n8 n9 n10
      go_loopw [3, 5] (fun v' x wr => ∃ (i : Nat) (v : Value), i ≤ 8 ∧ v = v' ∧ x = .int .i64 (56 - 8 * (i : Int)) ∧ RM w (p + i) Pd v wr) (fun _ x _ => (intOf x + 8).toNat)
      case atStart => exact ⟨0, _, Nat.zero_le _, rfl, rfl, HS.out⟩
      case round =>
        clear HS HBM
        obtain ⟨i, v, hi, rfl, rfl, hS⟩ := hrel
        have HS := zh hS
        clear hS
        rcases (by omega : i = 0 ∨ i = 1 ∨ i = 2 ∨ i = 3 ∨ i = 4 ∨ i = 5 ∨ i = 6 ∨ i = 7 ∨ i = 8) with rfl | rfl | rfl | rfl | rfl | rfl | rfl | rfl | rfl
        · as_aux_lemma =>
          rw [show (56 - 8 * ((0 : Nat) : Int)) = 56 from rfl]
          obtain ⟨x, hx⟩ := zX (numB N8 8 0)
          have hx8 : x < 256 := by rw [← hx]; exact numB_lt _ _ _
          have v0 : (N8 : Int) / 72057594037927936 % 256 = (x : Int) := by
            have := num8 N8 0 72057594037927936 (by decide) (by decide)
            rw [hx] at this
            rw [show (((72057594037927936 : Nat) : Int)) = 72057594037927936 from rfl] at this; exact this
          have v2 : (N8 : Int) / 72057594037927936 = (x : Int) := by have := HN8.out.2; rw [← v0]; omega
          have v3 : (x : Int) % 256 = (x : Int) := by omega
          have v1 : (N8 : Int) / 72057594037927936 % 18446744073709551616 = (N8 : Int) / 72057594037927936 := by have := HN8.out.2; omega
          have HX : Hid (Pd (p + 0) = x ∧ x < 256) := zh ⟨by rw [← HPX.out, ← HT.out.1, pad_n n F (by decide), HN8.out.1, hx], hx8⟩
          have HA : Hid (RM w (p + 0) Pd v (wr.alloc (.cells #[.int .u8 (x : Nat)] 5))) := zh (HS.out.later (zA))
          clear hx hx8
          go_wp2_with (first | (refine wpList_appO rfl (.tmp 30) (.tmp 36) rfl (w.heap.size + 1) _ (p + 0) 1 1 (some ⟨wr.heap.size, 0, none⟩) Pd (fun _ => x) (wr.alloc (.cells #[.int .u8 (x : Nat)] 5)) rfl HA.out.m rfl (fun h => by cases h) (one_byte HX.out.2) (by have := HT.out; omega) HA.out.s ?_; intro v6 w6 hG6 hg6 hob6; have H6 : Hid (RM w (p + 0 + 1) Pd v6 w6) := zh (HA.out.grew hg6 (hG6.congr (cat1 HX.out.1))); clear hG6 hg6 hob6))
          clear HA HS
          go_roundw
          case rel => exact ⟨1, _, by decide, rfl, rfl, H6.out⟩
          case measure => decide
        · as_aux_lemma =>
          rw [show (56 - 8 * ((1 : Nat) : Int)) = 48 from rfl]
          obtain ⟨x, hx⟩ := zX (numB N8 8 1)
          have hx8 : x < 256 := by rw [← hx]; exact numB_lt _ _ _
          have v0 : (N8 : Int) / 281474976710656 % 256 = (x : Int) := by
            have := num8 N8 1 281474976710656 (by decide) (by decide)
            rw [hx] at this
            rw [show (((281474976710656 : Nat) : Int)) = 281474976710656 from rfl] at this; exact this
          have v1 : (N8 : Int) / 281474976710656 % 18446744073709551616 = (N8 : Int) / 281474976710656 := by have := HN8.out.2; omega
          have HX : Hid (Pd (p + 1) = x ∧ x < 256) := zh ⟨by rw [← HPX.out, ← HT.out.1, pad_n n F (by decide), HN8.out.1, hx], hx8⟩
          have HA : Hid (RM w (p + 1) Pd v (wr.alloc (.cells #[.int .u8 (x : Nat)] 5))) := zh (HS.out.later (zA))
          clear hx hx8
          go_wp2_with (first | (refine wpList_appO rfl (.tmp 30) (.tmp 36) rfl (w.heap.size + 1) _ (p + 1) 1 1 (some ⟨wr.heap.size, 0, none⟩) Pd (fun _ => x) (wr.alloc (.cells #[.int .u8 (x : Nat)] 5)) rfl HA.out.m rfl (fun h => by cases h) (one_byte HX.out.2) (by have := HT.out; omega) HA.out.s ?_; intro v6 w6 hG6 hg6 hob6; have H6 : Hid (RM w (p + 1 + 1) Pd v6 w6) := zh (HA.out.grew hg6 (hG6.congr (cat1 HX.out.1))); clear hG6 hg6 hob6))
          clear HA HS
          go_roundw
          case rel => exact ⟨2, _, by decide, rfl, rfl, H6.out⟩
          case measure => decide
        · as_aux_lemma =>
          rw [show (56 - 8 * ((2 : Nat) : Int)) = 40 from rfl]
          obtain ⟨x, hx⟩ := zX (numB N8 8 2)
          have hx8 : x < 256 := by rw [← hx]; exact numB_lt _ _ _
          have v0 : (N8 : Int) / 1099511627776 % 256 = (x : Int) := by
            have := num8 N8 2 1099511627776 (by decide) (by decide)
            rw [hx] at this
            rw [show (((1099511627776 : Nat) : Int)) = 1099511627776 from rfl] at this; exact this
          have v1 : (N8 : Int) / 1099511627776 % 18446744073709551616 = (N8 : Int) / 1099511627776 := by have := HN8.out.2; omega
          have HX : Hid (Pd (p + 2) = x ∧ x < 256) := zh ⟨by rw [← HPX.out, ← HT.out.1, pad_n n F (by decide), HN8.out.1, hx], hx8⟩
          have HA : Hid (RM w (p + 2) Pd v (wr.alloc (.cells #[.int .u8 (x : Nat)] 5))) := zh (HS.out.later (zA))
          clear hx hx8
          go_wp2_with (first | (refine wpList_appO rfl (.tmp 30) (.tmp 36) rfl (w.heap.size + 1) _ (p + 2) 1 1 (some ⟨wr.heap.size, 0, none⟩) Pd (fun _ => x) (wr.alloc (.cells #[.int .u8 (x : Nat)] 5)) rfl HA.out.m rfl (fun h => by cases h) (one_byte HX.out.2) (by have := HT.out; omega) HA.out.s ?_; intro v6 w6 hG6 hg6 hob6; have H6 : Hid (RM w (p + 2 + 1) Pd v6 w6) := zh (HA.out.grew hg6 (hG6.congr (cat1 HX.out.1))); clear hG6 hg6 hob6))
          clear HA HS
          go_roundw
          case rel => exact ⟨3, _, by decide, rfl, rfl, H6.out⟩
          case measure => decide
        · as_aux_lemma =>
          rw [show (56 - 8 * ((3 : Nat) : Int)) = 32 from rfl]
          obtain ⟨x, hx⟩ := zX (numB N8 8 3)
          have hx8 : x < 256 := by rw [← hx]; exact numB_lt _ _ _
          have v0 : (N8 : Int) / 4294967296 % 256 = (x : Int) := by
            have := num8 N8 3 4294967296 (by decide) (by decide)
            rw [hx] at this
            rw [show (((4294967296 : Nat) : Int)) = 4294967296 from rfl] at this; exact this
          have v1 : (N8 : Int) / 4294967296 % 18446744073709551616 = (N8 : Int) / 4294967296 := by have := HN8.out.2; omega
          have HX : Hid (Pd (p + 3) = x ∧ x < 256) := zh ⟨by rw [← HPX.out, ← HT.out.1, pad_n n F (by decide), HN8.out.1, hx], hx8⟩
          have HA : Hid (RM w (p + 3) Pd v (wr.alloc (.cells #[.int .u8 (x : Nat)] 5))) := zh (HS.out.later (zA))
          clear hx hx8
          go_wp2_with (first | (refine wpList_appO rfl (.tmp 30) (.tmp 36) rfl (w.heap.size + 1) _ (p + 3) 1 1 (some ⟨wr.heap.size, 0, none⟩) Pd (fun _ => x) (wr.alloc (.cells #[.int .u8 (x : Nat)] 5)) rfl HA.out.m rfl (fun h => by cases h) (one_byte HX.out.2) (by have := HT.out; omega) HA.out.s ?_; intro v6 w6 hG6 hg6 hob6; have H6 : Hid (RM w (p + 3 + 1) Pd v6 w6) := zh (HA.out.grew hg6 (hG6.congr (cat1 HX.out.1))); clear hG6 hg6 hob6))
          clear HA HS
          go_roundw
          case rel => exact ⟨4, _, by decide, rfl, rfl, H6.out⟩
          case measure => decide
        · as_aux_lemma =>
          rw [show (56 - 8 * ((4 : Nat) : Int)) = 24 from rfl]
          obtain ⟨x, hx⟩ := zX (numB N8 8 4)
          have hx8 : x < 256 := by rw [← hx]; exact numB_lt _ _ _
          have v0 : (N8 : Int) / 16777216 % 256 = (x : Int) := by
            have := num8 N8 4 16777216 (by decide) (by decide)
            rw [hx] at this
            rw [show (((16777216 : Nat) : Int)) = 16777216 from rfl] at this; exact this
          have v1 : (N8 : Int) / 16777216 % 18446744073709551616 = (N8 : Int) / 16777216 := by have := HN8.out.2; omega
          have HX : Hid (Pd (p + 4) = x ∧ x < 256) := zh ⟨by rw [← HPX.out, ← HT.out.1, pad_n n F (by decide), HN8.out.1, hx], hx8⟩
          have HA : Hid (RM w (p + 4) Pd v (wr.alloc (.cells #[.int .u8 (x : Nat)] 5))) := zh (HS.out.later (zA))
          clear hx hx8
          go_wp2_with (first | (refine wpList_appO rfl (.tmp 30) (.tmp 36) rfl (w.heap.size + 1) _ (p + 4) 1 1 (some ⟨wr.heap.size, 0, none⟩) Pd (fun _ => x) (wr.alloc (.cells #[.int .u8 (x : Nat)] 5)) rfl HA.out.m rfl (fun h => by cases h) (one_byte HX.out.2) (by have := HT.out; omega) HA.out.s ?_; intro v6 w6 hG6 hg6 hob6; have H6 : Hid (RM w (p + 4 + 1) Pd v6 w6) := zh (HA.out.grew hg6 (hG6.congr (cat1 HX.out.1))); clear hG6 hg6 hob6))
          clear HA HS
          go_roundw
          case rel => exact ⟨5, _, by decide, rfl, rfl, H6.out⟩
          case measure => decide
        · as_aux_lemma =>
          rw [show (56 - 8 * ((5 : Nat) : Int)) = 16 from rfl]
          obtain ⟨x, hx⟩ := zX (numB N8 8 5)
          have hx8 : x < 256 := by rw [← hx]; exact numB_lt _ _ _
          have v0 : (N8 : Int) / 65536 % 256 = (x : Int) := by
            have := num8 N8 5 65536 (by decide) (by decide)
            rw [hx] at this
            rw [show (((65536 : Nat) : Int)) = 65536 from rfl] at this; exact this
          have v1 : (N8 : Int) / 65536 % 18446744073709551616 = (N8 : Int) / 65536 := by have := HN8.out.2; omega
          have HX : Hid (Pd (p + 5) = x ∧ x < 256) := zh ⟨by rw [← HPX.out, ← HT.out.1, pad_n n F (by decide), HN8.out.1, hx], hx8⟩
          have HA : Hid (RM w (p + 5) Pd v (wr.alloc (.cells #[.int .u8 (x : Nat)] 5))) := zh (HS.out.later (zA))
          clear hx hx8
          go_wp2_with (first | (refine wpList_appO rfl (.tmp 30) (.tmp 36) rfl (w.heap.size + 1) _ (p + 5) 1 1 (some ⟨wr.heap.size, 0, none⟩) Pd (fun _ => x) (wr.alloc (.cells #[.int .u8 (x : Nat)] 5)) rfl HA.out.m rfl (fun h => by cases h) (one_byte HX.out.2) (by have := HT.out; omega) HA.out.s ?_; intro v6 w6 hG6 hg6 hob6; have H6 : Hid (RM w (p + 5 + 1) Pd v6 w6) := zh (HA.out.grew hg6 (hG6.congr (cat1 HX.out.1))); clear hG6 hg6 hob6))
          clear HA HS
          go_roundw
          case rel => exact ⟨6, _, by decide, rfl, rfl, H6.out⟩
          case measure => decide
        · as_aux_lemma =>
          rw [show (56 - 8 * ((6 : Nat) : Int)) = 8 from rfl]
          obtain ⟨x, hx⟩ := zX (numB N8 8 6)
          have hx8 : x < 256 := by rw [← hx]; exact numB_lt _ _ _
          have v0 : (N8 : Int) / 256 % 256 = (x : Int) := by
            have := num8 N8 6 256 (by decide) (by decide)
            rw [hx] at this
            rw [show (((256 : Nat) : Int)) = 256 from rfl] at this; exact this
          have v1 : (N8 : Int) / 256 % 18446744073709551616 = (N8 : Int) / 256 := by have := HN8.out.2; omega
          have HX : Hid (Pd (p + 6) = x ∧ x < 256) := zh ⟨by rw [← HPX.out, ← HT.out.1, pad_n n F (by decide), HN8.out.1, hx], hx8⟩
          have HA : Hid (RM w (p + 6) Pd v (wr.alloc (.cells #[.int .u8 (x : Nat)] 5))) := zh (HS.out.later (zA))
          clear hx hx8
          go_wp2_with (first | (refine wpList_appO rfl (.tmp 30) (.tmp 36) rfl (w.heap.size + 1) _ (p + 6) 1 1 (some ⟨wr.heap.size, 0, none⟩) Pd (fun _ => x) (wr.alloc (.cells #[.int .u8 (x : Nat)] 5)) rfl HA.out.m rfl (fun h => by cases h) (one_byte HX.out.2) (by have := HT.out; omega) HA.out.s ?_; intro v6 w6 hG6 hg6 hob6; have H6 : Hid (RM w (p + 6 + 1) Pd v6 w6) := zh (HA.out.grew hg6 (hG6.congr (cat1 HX.out.1))); clear hG6 hg6 hob6))
          clear HA HS
          go_roundw
          case rel => exact ⟨7, _, by decide, rfl, rfl, H6.out⟩
          case measure => decide
        · as_aux_lemma =>
          rw [show (56 - 8 * ((7 : Nat) : Int)) = 0 from rfl]
          obtain ⟨x, hx⟩ := zX (numB N8 8 7)
          have hx8 : x < 256 := by rw [← hx]; exact numB_lt _ _ _
          have v0 : (N8 : Int) % 256 = (x : Int) := by
            have := num8 N8 7 1 (by decide) (by decide)
            rw [hx] at this
            rw [show (((1 : Nat) : Int)) = 1 from rfl, Int.ediv_one] at this; exact this
          have v1 : (N8 : Int) % 18446744073709551616 = (N8 : Int) := by have := HN8.out.2; omega
          have HX : Hid (Pd (p + 7) = x ∧ x < 256) := zh ⟨by rw [← HPX.out, ← HT.out.1, pad_n n F (by decide), HN8.out.1, hx], hx8⟩
          have HA : Hid (RM w (p + 7) Pd v (wr.alloc (.cells #[.int .u8 (x : Nat)] 5))) := zh (HS.out.later (zA))
          clear hx hx8
          go_wp2_with (first | (refine wpList_appO rfl (.tmp 30) (.tmp 36) rfl (w.heap.size + 1) _ (p + 7) 1 1 (some ⟨wr.heap.size, 0, none⟩) Pd (fun _ => x) (wr.alloc (.cells #[.int .u8 (x : Nat)] 5)) rfl HA.out.m rfl (fun h => by cases h) (one_byte HX.out.2) (by have := HT.out; omega) HA.out.s ?_; intro v6 w6 hG6 hg6 hob6; have H6 : Hid (RM w (p + 7 + 1) Pd v6 w6) := zh (HA.out.grew hg6 (hG6.congr (cat1 HX.out.1))); clear hG6 hg6 hob6))
          clear HA HS
          go_roundw
          case rel => exact ⟨8, _, by decide, rfl, rfl, H6.out⟩
          case measure => decide
        · rw [show (56 - 8 * ((8 : Nat) : Int)) = -8 from rfl]
          obtain ⟨N, hNe⟩ := zX (64 * blkN n)
          have HE : Hid (RM w N Pd v wr) := zh (by rw [← hNe, ← HT.out.2.2.2.2.1]; exact HS.out)
          have HNN : Hid (64 * blkN n = N ∧ 0 < N ∧ N < 1000000000000) := zh ⟨hNe, by unfold blkN at hNe; omega, by have := HT.out; omega⟩
          obtain ⟨om, cm2, hvm, hBm, hcm2, _⟩ := HE.out.m.bytesC (fun i _ => HPL.out i)
          subst hvm
          obtain ⟨_, mb, mo, rfl, hc0⟩ := hBm 0 HNN.out.2.1
          have hmb := hBm.lt _ rfl HNN.out.2.1
          obtain ⟨gh, hgh⟩ := zX wr.heap.size
          obtain ⟨CH, hCH⟩ := zX ((rowW 8 hN).toArray)
          obtain ⟨wb, hwb⟩ := zX (wr.alloc (.cells zero8w 149))
          obtain ⟨wc, hwc⟩ := zX (wb.setCells gh 0 CH.toList)
          have hZ : WB 149 8 gh (fun _ => 0) wb := by rw [← hwb, ← hgh]; exact Blk.new wr _ _
          have hbb : Below wr.heap.size wr wb := by rw [← hwb]; exact zA
          have hbc : Below wr.heap.size wr wc := hbb.trans (by rw [← hwc]; exact (Own.setCells _ _ _).below (by omega) hbb.size)
          have HTH : Hid (wb.there gh 0 CH.size) := zh (by rw [← hCH]; exact Blk.there hZ (by rw [rowW_size, rowW_size]; exact Nat.le_refl _))
          have HI : Hid ((Tryz.prog.info? 149).map (·.size) = some CH.size) := zh (hCH ▸ info56 hN)
          have HI1 : Hid (CH.all (·.oneCell') = true) := zh (hCH ▸ one8w hN)
          have HX0 : Hid (RH w gh mb mo N Pd (chK Pd 0) wc) := zh ⟨Blk.below HE.out.r hbc (Blk.lt HE.out.r), hBm.later hbc, by rw [← hwc, ← hCH]; exact Blk.setCells hZ (rowW 8 hN) (by rw [rowW_size, rowW_len]), HE.out.o.trans (hbc.mono HE.out.o.size), by have := HE.out.s; omega, Nat.ne_of_lt (by rw [← hgh]; exact hmb)⟩
          have HHB : Hid (∀ (o : Oper) (a : Act) w, o.dst = some 38 → o.op = .build 149 #[(0, .const (.int .u32 1779033703)), (1, .const (.int .u32 3144134277)), (2, .const (.int .u32 1013904242)), (3, .const (.int .u32 2773480762)), (4, .const (.int .u32 1359893119)), (5, .const (.int .u32 2600822924)), (6, .const (.int .u32 528734635)), (7, .const (.int .u32 1541459225))] → (execOp a.eval o).run Tryz.prog w = .ok (.value (.agg CH)) w) := zh fun o a w _ ho => by rw [← hCH]; exact exec_build8 (M := hN) ho rfl rfl rfl rfl rfl rfl rfl rfl
          clear hBm HS hi n11 HN8 hNe hmb hZ hbb hbc hCH HE hc0
          go_wp2_with (first
            | (refine wpList_value rfl (HHB.out _ _ _ rfl rfl) ?_)
            | (refine wpList_store_mid rfl 149 (.tmp 6) (.tmp 38) rfl gh 0 CH rfl rfl HTH.out HI.out HI1.out ?_; rw [hwc]))
          clear hgh hwb hwc HTH HI HI1 HHB hz8
          go_loopw [7] (fun x wr => ∃ k j : Nat, k ≤ blkN n ∧ 64 * k = j ∧ x = .int .i64 (j : Int) ∧ RH w gh mb mo N Pd (chK Pd k) wr) (fun x _ => N - (intOf x).toNat)
          case atStart => exact ⟨0, 0, Nat.zero_le _, rfl, rfl, HX0.out⟩
          case round =>
            clear HX0
            obtain ⟨k, j, hk, hj, rfl, hX⟩ := hrel
            have HX := zh hX
            clear hX
            by_cases hlt : k < blkN n
            · as_aux_lemma =>
              have j0 : (0 : Int) ≤ (j : Int) := by omega
              have j1 : (j : Int) < (N : Int) := by have := HNN.out; omega
              obtain ⟨j2, hj2⟩ := zX (j + 64)
              have j3 := wrap_big (m := 64) rfl hj2 (by have := HNN.out; omega)
              have j4 : (j : Int) ≤ (j2 : Int) := by omega
              have j5 : (j2 : Int) ≤ (cm2 : Int) := by have := HNN.out; omega
              have j6 : ¬ cm2 = j := by have := HNN.out; omega
              have j7 : j2 - j = 64 := by omega
              obtain ⟨L1, hL1⟩ := zX (rowW 8 (chK Pd k))
              obtain ⟨CM, hCM⟩ := zX ((rowW 8 (chK Pd (k + 1))).toArray)
              have HD : Hid (RH w gh mb mo N Pd (chK Pd k) wr.drew) := zh (HX.out.later (Below.refl _ wr).drew)
              have HRW : Hid (wr.drew.rangeAt gh 0 L1) := zh (hL1 ▸ WB.range HD.out.h)
              have HI1 : Hid ((Tryz.prog.info? 149).map (·.size) = some L1.length) := zh (hL1 ▸ info56l _)
              have HJ1 : Hid ((Tryz.prog.info? 149).map (·.size) = some CM.size) := zh (hCM ▸ info56 _)
              have HJ2 : Hid (CM.all (·.oneCell') = true) := zh (hCM ▸ one8w _)
              have HCM := zh hCM
              have HKJ : Hid (k < blkN n ∧ 64 * k = j ∧ j + 64 = j2) := zh ⟨hlt, hj, hj2⟩
              have HONE : Hid (∀ w', Bytes w' (some ⟨mb, mo, none⟩) N Pd → Calls Tryz.prog 74 #[.agg L1.toArray, .slice (some ⟨mb, mo + j, none⟩) 64 (cm2 - j)] w' fun e w'' => e = .returned (.agg CM) ∧ Below w'.heap.size w' w'') := zh fun w' h => by
                have h2 : Bytes w' (some ⟨mb, mo + j, none⟩) 64 (fun i => Pd (64 * k + i)) := fun i hi => by
                  obtain ⟨a1, b, off, a2, a3⟩ := h (64 * k + i) (by have := HKJ.out; have := HNN.out; omega)
                  cases a2
                  exact ⟨a1, mb, mo + j, rfl, by rw [← hj, Nat.add_assoc]; exact a3⟩
                have := rone_any (chK Pd k) _ mb (mo + j) (cm2 - j) w' (fun i _ => chK_lt _ _ _) h2
                rw [hL1] at this
                rw [← hCM]; exact this
              clear hL1 hCM hlt hk hj hj2 HX
              go_wp2_with fail
              refine wp_region_held_drew (S := (fun _ => True)) (by kernel_rfl) ?_ (fun hHeld => ?_)
              · (try dsimp only)
                all_goals (first | trivial | assumption)
              generalize wr.drew = W7 at *
              refine wT 1 ?_ rfl ?_ ?_
              rotate_left
              · intro wS hSw
                (try dsimp only at hSw)
                go_simp
                (try with_reducible rfl)
              (try simp only [Act.put, zS])
              refine wT 2 ?_ rfl ?_ ?_
              rotate_left
              · intro wS hSw
                (try dsimp only at hSw)
                go_simp
                (try with_reducible rfl)
              (try simp only [Act.put, zS])
              refine wT 3 ?_ rfl ?_ ?_
              rotate_left
              · intro wS hSw
                (try dsimp only at hSw)
                go_simp
                (try with_reducible rfl)
              (try simp only [Act.put, zS])
              refine wT 4 ?_ rfl ?_ ?_
              rotate_left
              · intro wS hSw
                (try dsimp only at hSw)
                go_simp
                (try with_reducible rfl)
              (try simp only [Act.put, zS])
              refine wT 5 ?_ rfl ?_ ?_
              rotate_left
              · intro wS hSw
                (try dsimp only at hSw)
                go_simp
                (try with_reducible rfl)
              (try simp only [Act.put, zS])
              refine wR [0] ?_
              refine aN rfl fun K hK => ?_
              (refine step_loadM rfl 149 (.tmp 6) rfl gh 0 rfl L1 _ HRW.out Tryz.underlying149 rfl HI1.out ?_; skip)
              refine hK.out _ _ ?_ fun hHeld => ?_
              · (try dsimp only)
                all_goals (first | trivial | assumption)
              clear hK K
              (try simp only [Act.put, zS])
              refine wR [6] ?_
              refine aN rfl fun K hK => ?_
              go_simp
              (refine (HONE.out _ HD.out.m).mono ?_; rintro e v_1 ⟨rfl, hb8⟩; have H8 := zh (HD.out.later hb8); have HTH : Hid (v_1.there gh 0 CM.size) := zh (HCM.out ▸ Blk.there H8.out.h (by rw [rowW_size, rowW_size]; exact Nat.le_refl _)); clear hb8; skip)
              (try go_wp2_with fail)
              refine hK.out _ _ ?_ fun hHeld => ?_
              · (try dsimp only)
                all_goals (first | trivial | assumption)
              clear hK K
              (try simp only [Act.put, zS])
              refine wR [7] ?_
              refine aN rfl fun K hK => ?_
              (refine step_storeM rfl 149 (.tmp 6) (.tmp 51) rfl gh 0 CM rfl rfl HTH.out HJ1.out HJ2.out ?_; have H9 := zh (H8.out.turned _ HCM.out); obtain ⟨w9, hw9⟩ : ∃ q', v_1.setCells gh 0 CM.toList = q' := ⟨_, rfl⟩; rw [hw9] at H9 ⊢; skip)
              refine hK.out _ _ ?_ fun hHeld => ?_
              · (try dsimp only)
                all_goals (first | trivial | assumption)
              clear hK K
              (try simp only [Act.put, zS])
              refine wpAnyH_done (by kernel_rfl) ?_ _
              clear H8 HTH HD HRW HONE HI1 HJ1 HJ2 hw9
              have j9 : IntKind.i64.wrap ((j : Int) + 64) = (j2 : Int) := j3
              go_wp2_with fail
              go_roundw
              case rel => exact ⟨k + 1, j2, HKJ.out.1, by have := HKJ.out; omega, rfl, H9.out⟩
              case measure => have := HKJ.out; have := HNN.out; simp [intOf]; omega
            · obtain rfl : k = blkN n := by omega
              have j1 : ¬ (j : Int) < (N : Int) := by have := HNN.out; omega
              obtain ⟨CK, hCK⟩ := zX (chK Pd (blkN n))
              have HDK : Hid (∀ i, D i = numB (CK (i / 4)) 4 (i % 4)) := zh fun i => by rw [← hCK]; exact HDD.out i
              have HKL : Hid (∀ i, CK i < 4294967296) := zh fun i => by rw [← hCK]; exact chK_lt _ _ _
              have HXE : Hid (RH w gh mb mo N Pd CK wr) := zh (hCK ▸ HX.out)
              obtain ⟨g1, hg1⟩ := zX wr.heap.size
              obtain ⟨wd1, hwd⟩ := zX (wr.alloc (.cells zero32 22))
              have HD0 : Hid (SE w gh g1 CK (fun j => if j < 0 then D j else 0) wd1) := zh (by
                have hb : Below wr.heap.size wr wd1 := by rw [← hwd]; exact zA
                have h2 := HXE.out.later hb
                refine ⟨h2.r, h2.h, ?_, h2.o, ?_, ?_⟩
                · refine RB.congr (f := fun _ => 0) ?_ fun i _ => (if_neg (Nat.not_lt_zero _)).symm
                  rw [← hwd, ← hg1]; exact Blk.new wr _ _
                · have := Blk.lt HXE.out.h; omega
                · have := Blk.lt HXE.out.h; have := HXE.out.s; omega)
              clear hCK HX HXE HDD hj hk hlt
              have hz := zero32_run
              go_wp2_with fail
              clear j1 hz hwd hg1
              go_loopw [9] (fun x wr => ∃ i : Nat, i ≤ 32 ∧ x = .int .i64 (i : Int) ∧ SE w gh g1 CK (fun j => if j < i then D j else 0) wr) (fun x _ => 32 - (intOf x).toNat)
              case atStart => exact ⟨0, Nat.zero_le _, rfl, HD0.out⟩
              case round =>
                clear HD0
                obtain ⟨i, hi, rfl, hX⟩ := hrel
                have HX := zh hX
                by_cases hli : i < 32
                · have i0 : (0 : Int) ≤ (i : Int) := by omega
                  have i1 : (i : Int) < 32 := by omega
                  have i2 : IntKind.i64.wrap ((i : Int) + 1) = ((i : Int) + 1) := by rw [IntWalk.i64_in _ (by omega)]
                  obtain ⟨q, hq⟩ := zX (i / 4)
                  have q1 : ((i : Nat) : Int).tdiv 4 = (q : Int) := tdk rfl hq
                  have q2 : (i : Int) / 4 = (q : Int) := by omega
                  have q3 : (0 : Int) ≤ (q : Int) := by omega
                  have q4 : (q : Int) < 8 := by omega
                  have q5 : IntKind.i64.wrap (q : Int) = (q : Int) := IntWalk.i64_in _ (by omega)
                  have hV := HKL.out q
                  have hat := HDK.out i
                  rw [hq] at hat
                  obtain ⟨V, hVV⟩ := zX (CK q)
                  rw [hVV] at hV hat
                  have cq : wr.cell? ⟨gh, q, none⟩ = some (.int .u32 (V : Nat)) := hX.h.val (by omega) hVV
                  obtain ⟨x, hx⟩ := zX (D i)
                  rw [hx] at hat
                  have HN := zh (show SE w gh g1 CK (fun j => if j < i + 1 then D j else 0) (wr.setCell ⟨g1, i, none⟩ (.int .u8 (x : Nat))) from
                    (hX.set i _).congr fun j hj => by
                      unfold upd
                      by_cases e3 : j = i
                      · subst e3; rw [if_pos rfl, if_pos (by omega), hx]
                      · rw [if_neg e3]
                        show (if j < i then D j else 0) = if j < i + 1 then D j else 0
                        by_cases h5 : j < i
                        · rw [if_pos h5, if_pos (by omega)]
                        · rw [if_neg h5, if_neg (by omega)])
                  have cc : wr.cell? ⟨g1, i, none⟩ = some (.int .u8 0) := hX.s.val (by omega) (if_neg (by omega))
                  have zz : wr.frozen? ⟨g1, i, none⟩ = false := hX.s.free _
                  have HLI : Hid (i < 32) := zh hli
                  have hr : i % 4 = 0 ∨ i % 4 = 1 ∨ i % 4 = 2 ∨ i % 4 = 3 := by omega
                  clear hX HX hi hli hq hVV hx
                  rcases hr with hr | hr | hr | hr
                  · as_aux_lemma =>
                    rw [hr] at hat
                    have r1 : ((i : Nat) : Int).tmod 4 = 0 := tmk rfl hr
                    have r2 : (i : Int) % 4 = 0 := by omega
                    have v0 := num4 V 0 16777216 (by decide) (by decide)
                    rw [← hat] at v0
                    rw [show (((16777216 : Nat) : Int)) = 16777216 from rfl] at v0
                    have v1 : (V : Int) / 16777216 % 4294967296 = (V : Int) / 16777216 := by omega
                    have v2 : (V : Int) / 16777216 = (x : Int) := by rw [← v0]; omega
                    have v3 : (x : Int) % 256 = (x : Int) := by omega
                    clear hr hat hV
                    go_wp2_with fail
                    have h64 := HLI.out
                    go_roundw
                    case rel => exact ⟨i + 1, by omega, by go_num, HN.out⟩
                    case measure => simp [intOf] <;> omega
                  · as_aux_lemma =>
                    rw [hr] at hat
                    have r1 : ((i : Nat) : Int).tmod 4 = 1 := tmk rfl hr
                    have r2 : (i : Int) % 4 = 1 := by omega
                    have v0 := num4 V 1 65536 (by decide) (by decide)
                    rw [← hat] at v0
                    rw [show (((65536 : Nat) : Int)) = 65536 from rfl] at v0
                    have v1 : (V : Int) / 65536 % 4294967296 = (V : Int) / 65536 := by omega
                    clear hr hat hV
                    go_wp2_with fail
                    have h64 := HLI.out
                    go_roundw
                    case rel => exact ⟨i + 1, by omega, by go_num, HN.out⟩
                    case measure => simp [intOf] <;> omega
                  · as_aux_lemma =>
                    rw [hr] at hat
                    have r1 : ((i : Nat) : Int).tmod 4 = 2 := tmk rfl hr
                    have r2 : (i : Int) % 4 = 2 := by omega
                    have v0 := num4 V 2 256 (by decide) (by decide)
                    rw [← hat] at v0
                    rw [show (((256 : Nat) : Int)) = 256 from rfl] at v0
                    have v1 : (V : Int) / 256 % 4294967296 = (V : Int) / 256 := by omega
                    clear hr hat hV
                    go_wp2_with fail
                    have h64 := HLI.out
                    go_roundw
                    case rel => exact ⟨i + 1, by omega, by go_num, HN.out⟩
                    case measure => simp [intOf] <;> omega
                  · as_aux_lemma =>
                    rw [hr] at hat
                    have r1 : ((i : Nat) : Int).tmod 4 = 3 := tmk rfl hr
                    have r2 : (i : Int) % 4 = 3 := by omega
                    have v0 := num4 V 3 1 (by decide) (by decide)
                    rw [← hat] at v0
                    rw [show (((1 : Nat) : Int)) = 1 from rfl, Int.ediv_one] at v0
                    have v1 : (V : Int) % 4294967296 = (V : Int) := by omega
                    clear hr hat hV
                    go_wp2_with fail
                    have h64 := HLI.out
                    go_roundw
                    case rel => exact ⟨i + 1, by omega, by go_num, HN.out⟩
                    case measure => simp [intOf] <;> omega
                · obtain rfl : i = 32 := by omega
                  have hY : RB 22 32 g1 D wr := HX.out.s.congr fun j hj => if_pos hj
                  have hN : RB 22 32 w.heap.size D (wr.setCells w.heap.size 0 (rowC 32 D).toArray.toList) := Blk.setCells HX.out.r (rowC 32 D) (by rw [rowC_size, rowC_len])
                  have hO : Below w.heap.size w (wr.setCells w.heap.size 0 (rowC 32 D).toArray.toList) := HX.out.o.trans ((Own.setCells _ 0 wr).below (Nat.le_refl _) HX.out.o.size)
                  have hTH : wr.there w.heap.size 0 (rowC 32 D).toArray.size := Blk.there HX.out.r (by rw [rowC_size, rowC_size]; exact Nat.le_refl _)
                  have hI := info27 D
                  have hI1 := one32 D
                  obtain ⟨E, hE⟩ := zX ((rowC 32 D).toArray)
                  unfold RB at hN hY
                  rw [hE] at hN hY hO hTH hI hI1
                  have HN := zh hN
                  have HY := zh hY
                  have HO := zh hO
                  have HTH := zh hTH
                  have HI := zh hI
                  have HI1 := zh hI1
                  have HE := zh hE
                  clear hN hY hO hTH hI hI1 hE hli hi hX HX
                  rw [show ((32 : Nat) : Int) = 32 from rfl]
                  go_wp2_with (first
                    | (refine wpList_load_row rfl 22 (.tmp 8) rfl g1 rfl 22 E (0, 0) _ HY.out Tryz.underlying22 rfl HI.out ?_)
                    | (refine wpList_store_mid rfl 22 (.tmp 2) (.tmp 69) rfl w.heap.size 0 E rfl rfl HTH.out HI.out HI1.out ?_))
                  refine bodyPost_ret (v := .agg E) ?_ rfl ⟨by rw [HE.out], HO.out⟩
                  exact results_cell_row Tryz.results53 _ _ w.heap.size 22 E (0, 0) _ rfl HN.out Tryz.underlying22 rfl HI.out
end Go.Proofs.YtncfocjmdecapaaGreatDoor
