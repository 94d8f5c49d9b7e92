/- Part of the proof: what stands here serves the walks of the functions that the statement calls. -/
import Derived.Test.YtncfocjmdecapaaGreatDoorY17
namespace Go.Proofs.YtncfocjmdecapaaGreatDoor
set_option linter.unusedVariables false
set_option linter.unusedSimpArgs false
open Go.RowKit
set_option maxRecDepth 100000
set_option maxHeartbeats 8000000
theorem Grow.someN {w : World} {base n : Nat} {v : Value} {f : Nat → Nat} (h : Grow w base v n f) (h0 : 0 < n) (hf : ∀ i, i < n → f i < 256) :
  ∃ g cap, v = .slice (some ⟨g, 0, none⟩) n cap ∧ base ≤ g ∧ Bytes w (some ⟨g, 0, none⟩) n f ∧ n ≤ cap ∧ cap ≤ maxLen := by
 obtain ⟨oa, cap, hv, hB, _⟩ := h.bytes hf
 rcases h.2 with ⟨_, h3⟩ | ⟨g, cap', cur, h2, hb, _, h3, hm, _⟩
 ·omega
 ·rw [hv] at h2; cases h2; exact ⟨g, cap, hv, hb, hB, h3, hm⟩
def CI (b7 : Nat) (w0 : World) (g kb bx : Nat) (W nn p : Nat → Nat) (n : Nat) (on : Option Addr) (capn bb off cap k j : Nat) (A : World) : Prop :=
 (∃ v, CP b7 w0 g kb bx W nn p n on capn v k A ∧ Blk A b7 #[v] 24) ∧ GB (b7 + 1) bb off n cap j A
section
variable {b7 g kb bx n capn bb off cap k j : Nat} {w0 A B : World} {W nn p : Nat → Nat} {on : Option Addr}
theorem CI.drew (h : CI b7 w0 g kb bx W nn p n on capn bb off cap k j A) : CI b7 w0 g kb bx W nn p n on capn bb off cap k j A.drew := by
 obtain ⟨⟨v, h1, h2⟩, h3⟩ := h; exact ⟨⟨v, h1.drew, h2⟩, h3.drew⟩
theorem CI.turned (h : CI b7 w0 g kb bx W nn p n on capn bb off cap k j A) {b : Nat} (hT : Turned b A B) (hb : w0.heap.size ≤ b) : CI b7 w0 g kb bx W nn p n on capn bb off cap k j B := by
 obtain ⟨⟨v, h1, h2⟩, h3⟩ := h; exact ⟨⟨v, h1.turned hT hb, hT.blk h2⟩, h3.turned hT⟩
theorem CI.later (h : CI b7 w0 g kb bx W nn p n on capn bb off cap k j A) (hb : Below A.heap.size A B) : CI b7 w0 g kb bx W nn p n on capn bb off cap k j B := by
 obtain ⟨⟨v, h1, h2⟩, h3⟩ := h; exact ⟨⟨v, h1.later hb, Blk.below h2 hb (Blk.lt h2)⟩, h3.later hb⟩
theorem CI.step (h : CI b7 w0 g kb bx W nn p n on capn bb off cap k j A) (hr : RBG (b7 + 1) bb off n cap j A B) : CI b7 w0 g kb bx W nn p n on capn bb off cap k (j + 1) B := by
 obtain ⟨⟨v, h1, h2⟩, h3⟩ := h
 obtain ⟨u, hu, rfl⟩ := hr
 obtain ⟨u0, h4, _⟩ := h3
 have hO : Own (b7 + 1) A (A.setCell ⟨b7 + 1, 0, none⟩ u) := (Own.refl _ _).set 0 _
 exact ⟨⟨v, h1.var hO (.inr rfl), hO.blk h2 (by omega)⟩, u, h4.set 0 u, hu⟩
end
structure CM (D b7 bm : Nat) (M : Array Value) (w0 A0 : World) (g kb bx : Nat) (W nn p : Nat → Nat) (n : Nat) (on : Option Addr) (capn bb off cap k j : Nat) (v : Value) (u : Value) (A : World) : Prop where
 cp : CP b7 w0 g kb bx W nn p n on capn v k A
 var : Blk A b7 #[u] 24
 box : GB (b7 + 1) bb off n cap j A
 mask : Blk A bm M 82
 hi : b7 + 1 < bm
 off : ∀ q, v.ownBlock = some q → q ≠ bm
 keep : Keeps D A0 A
section
variable {D b7 bm g kb bx n capn bb off cap k j : Nat} {M : Array Value} {w0 A0 A B : World} {W nn p : Nat → Nat} {on : Option Addr} {v u : Value}
theorem CM.later (h : CM D b7 bm M w0 A0 g kb bx W nn p n on capn bb off cap k j v u A) (hb : Below A.heap.size A B) : CM D b7 bm M w0 A0 g kb bx W nn p n on capn bb off cap k j v u B :=
 ⟨h.cp.later hb, Blk.below h.var hb (Blk.lt h.var), h.box.later hb, Blk.below h.mask hb (Blk.lt h.mask), h.hi, h.off, h.keep.trans (Keeps.of_below hb)⟩
theorem CM.put (h : CM D b7 bm M w0 A0 g kb bx W nn p n on capn bb off cap k j v u A) (u' : Value) : CM D b7 bm M w0 A0 g kb bx W nn p n on capn bb off cap k j v u' (A.setCell ⟨b7, 0, none⟩ u') := by
 have hO : Own b7 A (A.setCell ⟨b7, 0, none⟩ u') := (Own.refl _ _).set 0 _
 have := h.hi
 exact ⟨h.cp.var hO (.inl rfl), h.var.set 0 u', h.box.own hO (by omega), hO.blk h.mask (by omega), h.hi, h.off, h.keep.trans (Keeps.of_own hO h.var)⟩
theorem CM.grew (h : CM D b7 bm M w0 A0 g kb bx W nn p n on capn bb off cap k j v u A) {v' : Value} (hg : A.grownBy B v.ownBlock) (hG : Grow B (w0.heap.size + 2) v' (k + 1) (cphF W nn p)) (ho : v'.ownBlock = v.ownBlock ∨ v'.ownBlock = some A.heap.size) : CM D b7 bm M w0 A0 g kb bx W nn p n on capn bb off cap (k + 1) j v' u B := by
 have h1 := h.cp.place
 have h2 := Blk.lt h.mask
 have h3 := h.hi
 obtain ⟨x, h4, h5⟩ := h.box
 refine ⟨h.cp.grew hg hG (ho.imp id fun e => ⟨_, e, by omega⟩), h.cp.grew_blk hg h.var (fun q hq => by have := h.cp.apart q hq; omega), ⟨x, h.cp.grew_blk hg h4 (fun q hq => by have := h.cp.apart q hq; omega), h5⟩, h.cp.grew_blk hg h.mask h.off, h.hi, fun q hq => ?_, h.keep.trans (keeps_app h.cp.grow (Below.refl _ _) hg)⟩
 rcases ho with e | e
 ·exact h.off q (e ▸ hq)
 ·rw [e] at hq; cases hq; omega
end
theorem ciph_any (g kb bx : Nat) (W nn p : Nat → Nat) (n : Nat) (on ob : Option Addr) (capn cap : Nat) (w : World) (hK : KG w g kb bx W) (hn : Bytes w on 12 nn) (hnb : ∀ a, on = some a → a.block ≠ bx)
  (hp : Bytes w ob n p) (hpb : ∀ a, ob = some a → 0 < n → a.block ≠ bx) (hc : n ≤ cap) (hm : cap ≤ maxLen) (hs : n < 1000000) :
  Calls Tryz.prog 36 #[.pointer (some ⟨g, 0, none⟩), .slice on 12 capn, .slice ob n cap] w fun e w' => ∃ v, e = .returned v ∧ Grow w' (w.heap.size + 2) v n (cphF W nn p) ∧ KG w' g kb bx W ∧ Own bx w w' ∧ w.heap.size + 2 ≤ w'.heap.size := by
 have hz := zero16_run
 obtain ⟨bb, off, hob⟩ : ∃ bb off, 0 < n → ob = some ⟨bb, off, none⟩ := by
  rcases Nat.eq_zero_or_pos n with h | h
  ·exact ⟨0, 0, fun h' => by omega⟩
  ·obtain ⟨_, b, o, e, _⟩ := hp 0 h
   exact ⟨b, o, fun _ => e⟩
 have hNB : NBG bb off n cap 0 (.slice ob n cap) := by
  rcases Nat.eq_zero_or_pos n with h | h
  ·exact .inr ⟨by omega, ob, cap, by rw [h]⟩
  ·exact .inl ⟨by omega, by rw [hob h]; rfl⟩
 have HNB := zh hNB
 have HOB := zh hob
 have HP := zh hp
 have HN := zh hn
 have HK := zh hK
 have HB := zh (show (∀ a, on = some a → a.block ≠ bx) ∧ (∀ a, ob = some a → 0 < n → a.block ≠ bx) from ⟨hnb, hpb⟩)
 have HC := zh (show n ≤ cap ∧ cap ≤ maxLen ∧ n < 1000000 from ⟨hc, hm, hs⟩)
 have n16 : IntKind.i64.wrap ((n : Int) + 16) = ((n + 16 : Nat) : Int) := by rw [IntWalk.i64_in _ (by omega)]; omega
 clear hNB hob hp hn hK hnb hpb hc hm hs
 refine calls_marks Tryz.func36 rfl ?_
 simp only [Tryz.ntmps36, List.size_toArray, List.length_cons, List.length_nil, Nat.reduceAdd, Nat.reduceSub, Array.replicate_succ, Array.replicate_zero, List.push_toArray, List.append_toArray, List.nil_append, List.cons_append]
 go_wp2_with (first
  | (with_reducible refine wpList_mk0 rfl (.const (.int .i64 0)) (.tmp 15) rfl (n + 16) (w.heap.size + 2) rfl rfl (by have := HC.out; omega) (by simp) ?_; intro w1 hG1 hg1; have HG1 := zh hG1; have Hg1 := zh hg1; clear hG1 hg1)
  | (go_at_call 56; refine (blocks_any ob n cap _).mono ?_; rintro e w' ⟨rfl, rfl⟩))
 obtain ⟨b7, hb7⟩ := zX w1.heap.size
 obtain ⟨W4, hW4⟩ := zX (((w1.alloc (.cells #[.slice (some ⟨w.heap.size + 1 + 1, 0, none⟩) 0 (n + 16)] 24)).alloc (.cells #[.slice ob n cap] 24)))
 rw [hW4, hb7]
 have hg1 := Hg1.out
 have hba : Below w.heap.size w ((w.alloc (.cells #[.pointer (some ⟨g, 0, none⟩)] 54)).alloc (.cells #[.slice on 12 capn] 24)) := (zA).alloc (by simp) _
 have hsa : ((w.alloc (.cells #[.pointer (some ⟨g, 0, none⟩)] 54)).alloc (.cells #[.slice on 12 capn] 24)).heap.size = w.heap.size + 2 := by simp
 have hb1 : Below (w.heap.size + 2) ((w.alloc (.cells #[.pointer (some ⟨g, 0, none⟩)] 54)).alloc (.cells #[.slice on 12 capn] 24)) w1 := by
  have := (own_of_grown (v := .slice none 0 0) hg1).below (B := w.heap.size + 2) (by simp [Value.ownBlock]) (by simp)
  exact this
 have hb4 : Below w1.heap.size w1 W4 := by rw [← hW4]; exact (zA).alloc (by simp) _
 have hgl := (HG1.out (cphF W nn p)).lt (w.heap.size + 2) (by simp [Value.ownBlock])
 have hz4 : W4.heap.size = b7 + 2 := by rw [← hW4, ← hb7]; simp
 have hbw : Below w.heap.size w W4 := (hba.trans (hb1.mono (by omega))).trans (hb4.mono (by omega))
 have hI0 : CI b7 w g kb bx W nn p n on capn bb off cap 0 0 W4 := by
  have k1 : Blk ((w.alloc (.cells #[.pointer (some ⟨g, 0, none⟩)] 54)).alloc (.cells #[.slice on 12 capn] 24)) w.heap.size #[.pointer (some ⟨g, 0, none⟩)] 54 := (Blk.new w _ _).alloc _
  have k2 : Blk ((w.alloc (.cells #[.pointer (some ⟨g, 0, none⟩)] 54)).alloc (.cells #[.slice on 12 capn] 24)) (w.heap.size + 1) #[.slice on 12 capn] 24 := by simpa using Blk.new (w.alloc (.cells #[.pointer (some ⟨g, 0, none⟩)] 54)) #[.slice on 12 capn] 24
  have k3 := Blk.below k1 hb1 (by omega)
  have k4 := Blk.below k2 hb1 (by omega)
  refine ⟨⟨.slice (some ⟨w.heap.size + 1 + 1, 0, none⟩) 0 (n + 16), ⟨Blk.below k3 hb4 (Blk.lt k3), Blk.below k4 hb4 (Blk.lt k4), ?_, ?_, HK.out.below hbw, Own.of_below hbw, HK.out, by omega, by omega⟩, ?_⟩, .slice ob n cap, ?_, HNB.out⟩
  ·have := HG1.out (cphF W nn p); rw [hsa] at this; exact this.later hb4
  ·intro q hq; simp [Value.ownBlock] at hq; omega
  ·rw [← hW4, ← hb7]; exact (Blk.new w1 _ _).alloc _
  ·rw [← hW4, ← hb7]; simpa using Blk.new (w1.alloc _) #[.slice ob n cap] 24
 have HI0 := zh hI0
 have HSZ := zh (show W4.heap.size = b7 + 2 ∧ w.heap.size + 2 < b7 from ⟨hz4, by omega⟩)
 clear hW4 hb7 HG1 Hg1 hg1 hba hsa hb1 hb4 hgl hz4 hbw hI0 HNB
 refine wp_rangeR (gf := 81) (lb := #[.pointer (some ⟨b7 + 1, 0, none⟩)]) (N := (n + 15) / 16) rfl (enters_of Tryz.func81 (by kernel_rfl) rfl) (blocks_seq (b7 + 1) bb off n cap _ rfl HC.out.1 HC.out.2.1 HC.out.2.2) (fun _ => rfl)
  (fun i => CI b7 w g kb bx W nn p n on capn bb off cap (min (16 * i) n) i) (fun i => CI b7 w g kb bx W nn p n on capn bb off cap (min (16 * i) n) (i + 1)) (fun c A => False) ?hG (fun i A h => h.drew) (fun c A h => h.elim) ?hR ?hRk (fun i A B hT h => h.turned hT (by have := HSZ.out; omega)) (fun i A B hT h => h.turned hT (by have := HSZ.out; omega)) (fun c A B _ h => h.elim) ?h0
  (fun i => { tmps := #[.pointer (some ⟨g, 0, none⟩), .slice on 12 capn, .slice ob n cap, .pointer (some ⟨w.heap.size, 0, none⟩), .pointer (some ⟨w.heap.size + 1, 0, none⟩), undef, .slice none 0 0, .pointer (some ⟨b7, 0, none⟩), .int .u32 ((2 + i : Nat) : Int), .slice (some ⟨bb, off + 16 * i, none⟩) (min 16 (n - 16 * i)) (cap - 16 * i), undef, undef, undef, .slice ob n cap, .int .i64 (n : Int), .int .i64 ((n : Int) + 16), .slice (some ⟨w.heap.size + 1 + 1, 0, none⟩) 0 (n + 16), .slice ob n cap, .func (.func 81) #[] #[.pointer (some ⟨b7 + 1, 0, none⟩)], .int .u32 ((2 + i : Nat) : Int), .slice (some ⟨bb, off + 16 * i, none⟩) (min 16 (n - 16 * i)) (cap - 16 * i), undef, undef, undef, undef, undef, undef, undef, undef, undef, undef, undef, undef, undef, undef, undef, undef, undef, undef, undef, undef, undef], defers := [] }) ?assign ?body ?done (fun D c W _ h => h.elim)
 case hG => exact fun i A h => h.2
 case hR => exact fun i A B _ h hr => h.step hr
 case hRk =>
  rintro i A B h ⟨u, _, rfl⟩
  obtain ⟨_, u0, h4, _⟩ := h
  exact Keeps.of_own ((Own.refl (b7 + 1) A).set 0 _) h4
 case h0 =>
  intro A hA _
  show CI _ _ _ _ _ _ _ _ _ _ _ _ _ _ (min (16 * 0) n) 0 A
  rw [show min (16 * 0) n = 0 by omega]; exact HI0.out.later hA
 case assign =>
  intro l i W K _ hK
  unfold EB
  refine wpIn_seq ?_
  refine region_wd (fun ⟨_, _, h⟩ => h) rfl ?_
  go_wp2_with fail
  refine region_wd (fun ⟨_, _, h⟩ => h) rfl ?_
  go_wp2_with fail
  exact hK
 case body =>
  intro l i A hl hi hI
  obtain ⟨⟨v, hP, hV⟩, hG⟩ := hI
  have hsz := HSZ.out
  have hpl := hP.place
  have hlt := HK.out.lt
  have hcn := HC.out
  have h16 : 16 * i < n := by omega
  have hnb := HB.out
  have hnA : Bytes A on 12 nn := fun k hk => by
   obtain ⟨h1, b, o, e, h2⟩ := HN.out k hk
   exact ⟨h1, b, o, e, hP.own.cell h2 (show b ≠ bx from hnb.1 _ e)⟩
  have c3 : A.cell? ⟨w.heap.size, 0, none⟩ = some (.pointer (some ⟨g, 0, none⟩)) := by rw [Blk.cell hP.kp]; rfl
  have c4 : A.cell? ⟨w.heap.size + 1, 0, none⟩ = some (.slice on 12 capn) := by rw [Blk.cell hP.np]; rfl
  obtain ⟨M, hM⟩ := zX ((rowC 16 (cW W nn (2 + i))).toArray)
  have HCT : Hid (Calls Tryz.prog 57 #[.pointer (some ⟨g, 0, none⟩), .slice on 12 capn, .int .u32 ((2 + i : Nat) : Int)] A fun e w'' => e = .returned (.agg M) ∧ KG w'' g kb bx W ∧ Own bx A w'') := zh (by
   rw [← hM]
   exact counter_any g kb bx W nn (2 + i) on capn A hP.key hnA (by omega))
  have HMC : Hid (∃ f, M = (rowC 16 f).toArray) := zh ⟨_, hM.symm⟩
  have HZC : Hid (∃ f, zero16 = (rowC 16 f).toArray) := zh ⟨_, rfl⟩
  have HM := zh hM
  have HST := zh (show CP b7 w g kb bx W nn p n on capn v (min (16 * i) n) A ∧ Blk A b7 #[v] 24 ∧ GB (b7 + 1) bb off n cap (i + 1) A ∧ i < (n + 15) / 16 ∧ W4.heap.size < l from ⟨hP, hV, hG, hi, hl⟩)
  obtain ⟨V8, h8⟩ : ∃ y : Int, ((2 + i : Nat) : Int) = y := ⟨_, rfl⟩
  obtain ⟨o9, h9⟩ := zX (off + 16 * i)
  obtain ⟨m9, hm9⟩ := zX (min 16 (n - 16 * i))
  obtain ⟨c9, hc9⟩ := zX (cap - 16 * i)
  have H9 := zh (show off + 16 * i = o9 ∧ min 16 (n - 16 * i) = m9 ∧ cap - 16 * i = c9 from ⟨h9, hm9, hc9⟩)
  dsimp only
  rw [h8] at HCT ⊢
  rw [h9, hm9, hc9]
  have hmx : m9 ≤ 16 := by omega
  have hmy : 0 < m9 := by omega
  clear hP hV hG hsz hpl hlt hcn hnb hnA hM h8 h9 hm9 hc9 hi hl
  refine wpIn_block ?_
  refine wpIn_seq ?_
  refine region_wd (fun ⟨_, _, h⟩ => h) rfl ?_
  go_wp2_with fail
  refine HCT.out.mono ?_
  rintro e A1 ⟨rfl, hK1, hO1⟩
  have HK1 := zh hK1
  have HO1 := zh hO1
  have hZ1 : Blk (A1.alloc (.cells zero16 82)) A1.heap.size zero16 82 := Blk.new _ _ _
  have HZ1 := zh hZ1
  clear hK1 hO1 hZ1 HCT c3 c4
  go_wp2_with (first | (refine wpList_store16 rfl (.tmp 10) (.tmp 24) rfl A1.heap.size rfl M zero16 rfl HZ1.out HMC.out HZC.out ?_))
  have hCM : CM W4.heap.size b7 A1.heap.size M w A g kb bx W nn p n on capn bb off cap (16 * i + 0) (i + 1) v v ((A1.alloc (.cells zero16 82)).setCells A1.heap.size 0 M.toList) := by
   obtain ⟨hP, hV, hG, hi, hl⟩ := HST.out
   have hpl := hP.place
   have hlt := HK.out.lt
   rw [show min (16 * i) n = 16 * i by have := HC.out; omega] at hP
   have q1 := hP.asked HO1.out HK1.out
   have hba : Below A1.heap.size A1 (A1.alloc (.cells zero16 82)) := zA
   have q2 := q1.later hba
   have hOs : Own A1.heap.size (A1.alloc (.cells zero16 82)) ((A1.alloc (.cells zero16 82)).setCells A1.heap.size 0 M.toList) := Own.setCells _ _ _
   have hs1 := HO1.out.size
   have q3 := q2.other hOs (by omega) (fun q hq => by have := q1.grow.lt q hq; omega)
   have v1 := HO1.out.blk hV (by omega)
   have g1 := (hG.own HO1.out (by omega)).later hba
   refine ⟨q3, hOs.blk (Blk.below v1 hba (Blk.lt v1)) (by omega), g1.own hOs (by omega), Blk.store16 HZ1.out HMC.out HZC.out, by omega, fun q hq => by have := q1.grow.lt q hq; omega, ?_⟩
   refine Keeps.trans (Y := A1) ?_ ((Keeps.of_below hba).trans (Keeps.of_own hOs HZ1.out))
   rcases hP.key.box with t | t
   ·exact Keeps.of_own HO1.out t.1
   ·exact Keeps.of_own HO1.out t.1
  obtain ⟨bm, hbm⟩ := zX A1.heap.size
  rw [hbm] at hCM ⊢
  have HCM := zh hCM
  generalize (A1.alloc (.cells zero16 82)).setCells bm 0 M.toList = A2 at *
  have HIN := zh HST.out.2.2.2
  clear hCM hbm HK1 HO1 HZ1 HST HZC
  refine wpIn_seq ?_
  refine region_wd (fun ⟨_, _, h⟩ => h) rfl ?_
  go_wp2_with fail
  refine wpIn_block ?_
  gi_loopw [27] (fun y wr => ∃ (j : Nat) (v : Value), j ≤ m9 ∧ y = .int .i64 (j : Int) ∧ CM W4.heap.size b7 bm M w A g kb bx W nn p n on capn bb off cap (16 * i + j) (i + 1) v v wr) (fun y _ => m9 - (intOf y).toNat)
  case atStart => exact ⟨0, v, Nat.zero_le _, rfl, HCM.out⟩
  clear HCM v
  obtain ⟨j, v, hj, rfl, hC⟩ := hrel
  by_cases hlt : j < m9
  ·have h9 := H9.out
   have hcn := HC.out
   have hin := HIN.out
   have hk : 16 * i + j < n := by omega
   obtain ⟨hp1, b', o', he, hp2⟩ := HP.out (16 * i + j) hk
   rw [HOB.out (by omega)] at he
   cases he
   have cb : wr.cell? ⟨bb, o9 + j, none⟩ = some (.int .u8 (p (16 * i + j) : Nat)) := by
    have := hC.cp.own.cell hp2 (show bb ≠ bx from HB.out.2 _ (HOB.out (by omega)) (by omega))
    rw [show off + (16 * i + j) = o9 + j by omega] at this; exact this
   have hnn : ∀ k, k < 12 → nn k < 256 := fun k hk => (HN.out k hk).1
   have hxm : cW W nn (2 + i) j < 256 := cW_lt hnn j (by omega)
   have hx : bits .xor .u8 (p (16 * i + j) : Int) (cW W nn (2 + i) j : Nat) = ((p (16 * i + j) ^^^ cW W nn (2 + i) j : Nat) : Int) := u8_xor_nat _ _ hp1 hxm
   have HX : Hid ((∀ q, q < 16 * i + j + 1 → catF (16 * i + j) (cphF W nn p) (fun _ => p (16 * i + j) ^^^ cW W nn (2 + i) j) q = cphF W nn p q) ∧ p (16 * i + j) ^^^ cW W nn (2 + i) j < 256) := zh ⟨fun q hq => by
    unfold catF
    by_cases e : q < 16 * i + j
    ·rw [if_pos e]
    ·rw [if_neg e]
     have : q = 16 * i + j := by omega
     subst this
     unfold cphF
     rw [show (16 * i + j) / 16 = i by omega, show (16 * i + j) % 16 = j by omega], xor_lt256 hp1 hxm⟩
   have HMK : Hid (∀ A, Blk A bm M 82 → A.cell? ⟨bm, j, none⟩ = some (.int .u8 (cW W nn (2 + i) j : Nat))) := zh fun A h => by
    rw [← HM.out] at h; exact B16.cell h (by omega)
   have HFL : Hid (∀ q, q < n → cphF W nn p q < 256) := zh (cphF_lt hnn fun q hq => (HP.out q hq).1)
   have HJ := zh (show j < m9 ∧ 16 * i + j < n ∧ n < 1000000 from ⟨hlt, hk, hcn.2.2⟩)
   have j0 : (0 : Int) ≤ (j : Int) := by omega
   have j1 : (j : Int) < (m9 : Int) := by omega
   have j2 : (j : Int) < 16 := by omega
   have HC0 := zh hC
   generalize cW W nn (2 + i) j = xm at *
   generalize p (16 * i + j) = xp at *
   generalize xp ^^^ xm = x at *
   clear h9 hcn hin hk hp1 hp2 hnn hxm hC
   refine wpIn_seq ?_
   refine region_wd (fun ⟨_, _, h⟩ => h) rfl ?_
   go_wp2_with fail
   refine wpIn_seq ?_
   refine wpIn_cond_true rfl ?_
   refine wpIn_skip ?_
   refine wpIn_seq ?_
   refine wpIn_block ?_
   refine wpIn_seq ?_
   refine region_wd (fun ⟨_, _, h⟩ => h) rfl ?_
   go_wp2_with fail
   have hC_0 := HC0.out.later (⟨rfl, rfl, rfl, Nat.le_refl _, fun _ _ => rfl⟩ : Below wr.heap.size wr wr.drew)
   have hM_0 := hC_0.mask
   clear HC0 cb
   refine regionD_wd (S := (fun A => Blk A bm M 82)) (fun ⟨_, _, h⟩ => h) rfl (by kernel_rfl) ?_ (fun hHeld => ?_)
   ·(try dsimp only)
    (first | assumption | (dsimp only; assumption))
   generalize wr.drew = W0 at *
   refine wT 1 ?_ rfl ?_ ?_
   rotate_left
   ·intro wS hSw
    (try dsimp only at hSw)
    go_simp
    (try with_reducible rfl)
   (try simp only [Act.put, zS])
   refine wT 2 ?_ rfl ?_ ?_
   rotate_left
   ·intro wS hSw
    (try dsimp only at hSw)
    go_simp
    (try with_reducible rfl)
   (try simp only [Act.put, zS])
   refine wT 3 ?_ rfl ?_ ?_
   rotate_left
   ·intro wS hSw
    (try dsimp only at hSw)
    go_simp
    (try with_reducible rfl)
   (try simp only [Act.put, zS])
   refine wT 4 ?_ rfl ?_ ?_
   rotate_left
   ·intro wS hSw
    (have c9 := HMK.out wS hSw; go_simp; (try with_reducible rfl))
   (try simp only [Act.put, zS])
   refine wT 5 ?_ rfl ?_ ?_
   rotate_left
   ·intro wS hSw
    (try dsimp only at hSw)
    go_simp
    (try with_reducible rfl)
   (try simp only [Act.put, zS])
   refine wR [0, 6] ?_
   refine aC rfl (fun K hK => ?_) ?_
   ·skip
    (have c7 : W0.cell? ⟨b7, 0, none⟩ = some v := (by rw [Blk.cell hC_0.var]; rfl); go_simp; clear c7; skip)
    refine hK.out _ _ ?_ fun hHeld => ?_
    ·(try dsimp only)
     (first | assumption | (dsimp only; assumption))
    clear hK K
    (try simp only [Act.put, zS])
    refine wR [6] ?_
    refine aN rfl fun K hK => ?_
    go_simp
    (obtain ⟨W1, hW1⟩ := zX (W0.alloc (.cells #[.int .u8 (x : Int)] 5)); rw [hW1]; have hbb : Below W0.heap.size W0 W1 := (by rw [← hW1]; exact zA); have hC_1 := hC_0.later hbb; have hOB : Bytes W1 (some ⟨W0.heap.size, 0, none⟩) 1 (fun _ => x) := (by rw [← hW1]; exact one_byte HX.out.2); have hM_1 : Blk W1 bm M 82 := hC_1.mask; clear hbb hC_0 hW1; skip)
    (try go_wp2_with fail)
    refine hK.out _ _ ?_ fun hHeld => ?_
    ·(try dsimp only)
     (first | assumption | (dsimp only; assumption))
    clear hK K
    (try simp only [Act.put, zS])
    refine wR [7] ?_
    refine aN rfl fun K hK => ?_
    (refine step_appO rfl (.tmp 32) (.tmp 38) rfl (w.heap.size + 2) v (16 * i + j) 1 1 (some ⟨W0.heap.size, 0, none⟩) (cphF W nn p) (fun _ => x) W1 rfl hC_1.cp.grow rfl (fun e => by cases e) hOB (by have := HJ.out; omega) (by have := hC_1.cp.place; omega) ?_; intro v2 W2 hG2 hg2 hob2; have hC_2 := hC_1.grew hg2 (hG2.congr fun q hq => HX.out.1 q hq) hob2; have hM_2 : Blk W2 bm M 82 := hC_2.mask; obtain ⟨g2, cp2, hv2, -, -, -, -⟩ := hC_2.cp.grow.someN (Nat.succ_pos _) (fun q hq => HFL.out q (by have := HJ.out; omega)); subst hv2; clear hG2 hg2 hob2 hC_1 hOB; skip)
    refine hK.out _ _ ?_ fun hHeld => ?_
    ·(try dsimp only)
     (first | assumption | (dsimp only; assumption))
    clear hK K
    (try simp only [Act.put, zS])
    refine wR [8] ?_
    refine aN rfl fun K hK => ?_
    (have c7 : W2.cell? ⟨b7, 0, none⟩ = some v := (by rw [Blk.cell hC_2.var]; rfl); have f7 : W2.frozen? ⟨b7, 0, none⟩ = false := Blk.free hC_2.var _; go_simp; have hC_3 := hC_2.put (.slice (some ⟨g2, 0, none⟩) (16 * i + j + 1) cp2); have hM_3 := hC_3.mask; clear c7 f7 hC_2; generalize W2.setCell ⟨b7, 0, none⟩ (.slice (some ⟨g2, 0, none⟩) (16 * i + j + 1) cp2) = W3 at *; skip)
    refine hK.out _ _ ?_ fun hHeld => ?_
    ·(try dsimp only)
     (first | assumption | (dsimp only; assumption))
    clear hK K
    (try simp only [Act.put, zS])
    refine wpAnyH_done (by kernel_rfl) ?_ _
    have HC9 := zh hC_3
    clear hC_3
    refine region_wd (fun ⟨_, _, h⟩ => h) rfl ?_
    go_wp2_with fail
    go_roundw
    case rel => exact ⟨j + 1, _, by have := HJ.out; omega, by go_num, HC9.out⟩
    case measure => have := HJ.out; simp [intOf]; omega
   refine aN rfl fun K hK => ?_
   go_simp
   (obtain ⟨W1, hW1⟩ := zX (W0.alloc (.cells #[.int .u8 (x : Int)] 5)); rw [hW1]; have hbb : Below W0.heap.size W0 W1 := (by rw [← hW1]; exact zA); have hC_1 := hC_0.later hbb; have hOB : Bytes W1 (some ⟨W0.heap.size, 0, none⟩) 1 (fun _ => x) := (by rw [← hW1]; exact one_byte HX.out.2); have hM_1 : Blk W1 bm M 82 := hC_1.mask; clear hbb hC_0 hW1; skip)
   (try go_wp2_with fail)
   refine hK.out _ _ ?_ fun hHeld => ?_
   ·(try dsimp only)
    (first | assumption | (dsimp only; assumption))
   clear hK K
   (try simp only [Act.put, zS])
   refine wR [0] ?_
   refine aN rfl fun K hK => ?_
   (have c7 : W1.cell? ⟨b7, 0, none⟩ = some v := (by rw [Blk.cell hC_1.var]; rfl); go_simp; clear c7; skip)
   refine hK.out _ _ ?_ fun hHeld => ?_
   ·(try dsimp only)
    (first | assumption | (dsimp only; assumption))
   clear hK K
   (try simp only [Act.put, zS])
   refine wR [7] ?_
   refine aN rfl fun K hK => ?_
   (refine step_appO rfl (.tmp 32) (.tmp 38) rfl (w.heap.size + 2) v (16 * i + j) 1 1 (some ⟨W0.heap.size, 0, none⟩) (cphF W nn p) (fun _ => x) W1 rfl hC_1.cp.grow rfl (fun e => by cases e) hOB (by have := HJ.out; omega) (by have := hC_1.cp.place; omega) ?_; intro v2 W2 hG2 hg2 hob2; have hC_2 := hC_1.grew hg2 (hG2.congr fun q hq => HX.out.1 q hq) hob2; have hM_2 : Blk W2 bm M 82 := hC_2.mask; obtain ⟨g2, cp2, hv2, -, -, -, -⟩ := hC_2.cp.grow.someN (Nat.succ_pos _) (fun q hq => HFL.out q (by have := HJ.out; omega)); subst hv2; clear hG2 hg2 hob2 hC_1 hOB; skip)
   refine hK.out _ _ ?_ fun hHeld => ?_
   ·(try dsimp only)
    (first | assumption | (dsimp only; assumption))
   clear hK K
   (try simp only [Act.put, zS])
   refine wR [8] ?_
   refine aN rfl fun K hK => ?_
   (have c7 : W2.cell? ⟨b7, 0, none⟩ = some v := (by rw [Blk.cell hC_2.var]; rfl); have f7 : W2.frozen? ⟨b7, 0, none⟩ = false := Blk.free hC_2.var _; go_simp; have hC_3 := hC_2.put (.slice (some ⟨g2, 0, none⟩) (16 * i + j + 1) cp2); have hM_3 := hC_3.mask; clear c7 f7 hC_2; generalize W2.setCell ⟨b7, 0, none⟩ (.slice (some ⟨g2, 0, none⟩) (16 * i + j + 1) cp2) = W3 at *; skip)
   refine hK.out _ _ ?_ fun hHeld => ?_
   ·(try dsimp only)
    (first | assumption | (dsimp only; assumption))
   clear hK K
   (try simp only [Act.put, zS])
   refine wpAnyH_done (by kernel_rfl) ?_ _
   have HC9 := zh hC_3
   clear hC_3
   refine region_wd (fun ⟨_, _, h⟩ => h) rfl ?_
   go_wp2_with fail
   go_roundw
   case rel => exact ⟨j + 1, _, by have := HJ.out; omega, by go_num, HC9.out⟩
   case measure => have := HJ.out; simp [intOf]; omega
  ·have hm : j = m9 := by omega
   have j1 : ¬ (j : Int) < (m9 : Int) := by omega
   have j2 : decide ((j : Int) < (m9 : Int)) = false := decide_eq_false j1
   have HC0 := zh hC
   clear hC
   refine wpIn_seq ?_
   refine region_wd (fun ⟨_, _, h⟩ => h) rfl ?_
   go_wp2_with fail
   refine wpIn_seq ?_
   refine wpIn_cond_false rfl ?_
   refine wpIn_exit ?_
   have h := HC0.out
   refine ⟨h.keep, ⟨v, ?_, h.var⟩, h.box⟩
   have h9 := H9.out
   rw [show min (16 * (i + 1)) n = 16 * i + j by have := HC.out; have := HIN.out; omega]
   exact h.cp
 case done =>
  intro D A hD hP hK
  obtain ⟨⟨v, hC, hV⟩, hG⟩ := hP
  have e16 : min (16 * ((n + 15) / 16)) n = n := by have := HC.out; omega
  rw [e16] at hC
  have c7 : A.cell? ⟨b7, 0, none⟩ = some v := by rw [Blk.cell hV]; rfl
  have HCP := zh hC
  have HKD := zh hK
  have HD := zh hD
  clear hC hV hG hK hD e16
  go_wp2_with fail
  have hlt := lt_of_block HKD.out
  have hO : Own D A (A.putObj D (.deferred none)) := own_put A D _
  have hpl := HCP.out.place
  have hsz := HSZ.out
  have hd := HD.out
  have hfin := HCP.out.other hO (by omega) (fun q hq e => by
   subst e
   rcases HCP.out.grow.2 with ⟨e1, _⟩ | ⟨g', cap', cur, e1, _, h3, _⟩
   ·rw [e1] at hq; cases hq
   ·rw [e1] at hq; cases hq
    have := HKD.out
    simp only at this h3
    rw [h3] at this; cases this)
  refine ⟨by simp, .inl ⟨_, _, rfl, run_takeDeferred HKD.out, ?_⟩⟩
  exact ⟨_, results_tmp rfl _ _ _, v, rfl, hfin.grow, hfin.key, hfin.own, by have := hfin.place; omega⟩
set_option maxHeartbeats 4000000
theorem exec_s2a {o : Oper} {a : Act} {w : World} {x : Operand} {oa : Option Addr} {len cap : Nat} (ho : o.op = .sliceToArrayPointer 82 x) (hx : a.eval x = .slice oa len cap) (hn : 16 ≤ len) : (execOp a.eval o).run Tryz.prog w = .ok (.value (.pointer oa)) w := by
 unfold execOp
 simp only [ho, hx, Sem.run_bind, run_arrayAt w 82 5 16 oa len cap Tryz.underlying82 hn, Result.andThen_ok]
 rfl
theorem exec_ld43 {o : Oper} {a : Act} {w : World} {x : Operand} {v : Value} {C : Array Value} (ho : o.op = .load 82 x) (hx : a.eval x = v) (h : (Instr.loadAt 82 v).run Tryz.prog w = .ok (.agg C) w) : (execOp a.eval o).run Tryz.prog w = .ok (.value (.agg C)) w := by
 unfold execOp
 simp only [ho, hx, Sem.run_bind, h, Result.andThen_ok]
 rfl
def OpenR (w : World) (g kb bx : Nat) (W nn a q : Nat → Nat) (en an : Nat) (e : Ending) (w' : World) : Prop :=
 KG w' g kb bx W ∧ Own bx w w' ∧ ((eqF (tgF W nn a an q en) (fun i => q (en + i)) = true ∧ ∃ v B, e = .returned (.tuple #[v, .nilIface]) ∧ Grow w' B v en (cphF W nn q) ∧ w.heap.size ≤ B) ∨
  (eqF (tgF W nn a an q en) (fun i => q (en + i)) = false ∧ e = .returned (.tuple #[.slice none 0 0, .iface 53 (.int .i64 11)])))
theorem open_any (g kb bx : Nat) (W nn q a : Nat → Nat) (en an bo oo : Nat) (on oa : Option Addr) (capn cap capa : Nat) (w : World) (hK : KG w g kb bx W) (hn : Bytes w on 12 nn) (hnb : ∀ x, on = some x → x.block ≠ bx)
  (hp : Bytes w (some ⟨bo, oo, none⟩) (en + 16) q) (hpb : bo ≠ bx) (ha : Bytes w oa an a) (hc : en + 16 ≤ cap) (hm : cap ≤ maxLen) (hc2 : an ≤ capa) (hm2 : capa ≤ maxLen) (hs : en ≤ 2048) (hs2 : an ≤ 2048) :
  Calls Tryz.prog 21 #[.pointer (some ⟨g, 0, none⟩), .slice on 12 capn, .slice (some ⟨bo, oo, none⟩) (en + 16) cap, .slice oa an capa] w (OpenR w g kb bx W nn a q en an) := by
 obtain ⟨T, hT⟩ := zX ((rowC 16 (tgF W nn a an q en)).toArray)
 obtain ⟨Q, hQ⟩ := zX ((fun i => q (en + i)))
 obtain ⟨QA, hQA⟩ := zX ((rowC 16 Q).toArray)
 obtain ⟨t, ht⟩ := zX (eqF (tgF W nn a an q en) Q)
 have HQA := zh hQA
 have HEQ : Hid (∀ w, (Op.equalIn 10000 82 (.agg T) (.agg QA)).run Tryz.prog w = .ok t w) := zh fun w => by
  rw [← hT, ← hQA, ← ht]; exact eq16 _ _ w
 have hR : ∀ A, Below w.heap.size w A → A.rangeAt bo (oo + en) (rowC 16 Q) := fun A hb j v hv => by
  have hj : j < 16 := by
   rcases Nat.lt_or_ge j 16 with h1 | h1
   ·exact h1
   ·rw [List.getElem?_eq_none (by rw [rowC_len]; omega)] at hv; cases hv
  rw [rowC_get _ hj] at hv
  cases hv
  obtain ⟨_, b, o, e, h2⟩ := hp (en + j) (by omega)
  cases e
  rw [← hQ, Nat.add_assoc]
  exact cell_below hb h2
 have HR := zh hR
 have HRO : Hid (∀ A B, Own bx A B → A.rangeAt bo (oo + en) (rowC 16 Q) → B.rangeAt bo (oo + en) (rowC 16 Q)) := zh fun A B hO h j v hv => hO.cell (h j v hv) hpb
 have hq2 : ∀ A, Below w.heap.size w A → Bytes A (some ⟨bo, oo, none⟩) en q := fun A hb k hk => (hp.later hb) k (by omega)
 have HTG : Hid (∀ A, Below w.heap.size w A → Calls Tryz.prog 37 #[.pointer (some ⟨g, 0, none⟩), .slice on 12 capn, .slice (some ⟨bo, oo, none⟩) en cap, .slice oa an capa] A fun e w' => e = .returned (.agg T) ∧ KG w' g kb bx W ∧ Own bx A w') := zh fun A hb => by
  rw [← hT]
  exact tag_any g kb bx W nn q a en an on (some ⟨bo, oo, none⟩) oa capn cap capa A (hK.below hb) (hn.later hb) (hq2 A hb) (ha.later hb) hnb (by omega) hc2 hm hm2 (by omega) (by omega)
 have HCI : Hid (∀ A, KG A g kb bx W → Own bx w A → Calls Tryz.prog 36 #[.pointer (some ⟨g, 0, none⟩), .slice on 12 capn, .slice (some ⟨bo, oo, none⟩) en cap] A fun e w' => ∃ v, e = .returned v ∧ Grow w' (A.heap.size + 2) v en (cphF W nn q) ∧ KG w' g kb bx W ∧ Own bx A w' ∧ A.heap.size + 2 ≤ w'.heap.size) := zh fun A hk hO =>
  ciph_any g kb bx W nn q en on (some ⟨bo, oo, none⟩) capn cap A hk (hn.own hO (fun x hx _ => hnb x hx)) hnb ((hq2 w (Below.refl _ _)).own hO (fun x hx _ => by cases hx; exact hpb)) (fun x hx _ => by cases hx; exact hpb) (by omega) hm (by omega)
 have HI16 : Hid ((Tryz.prog.info? 82).map (·.size) = some (rowC 16 Q).length) := zh (by rw [rowC_len]; exact size16)
 have HTT : Hid (eqF (tgF W nn a an q en) (fun i => q (en + i)) = t) := zh (hQ ▸ ht)
 have e1 : ¬ ((2064 : Int) < (en : Int) + 16) := by omega
 have e2 : ¬ ((2048 : Int) < (an : Int)) := by omega
 have e3 : decide ((2064 : Int) < (en : Int) + 16) = false := decide_eq_false e1
 have e4 : decide ((2048 : Int) < (an : Int)) = false := decide_eq_false e2
 have e5 : ¬ ((en : Int) + 16 < 16) := by omega
 have e6 : decide ((en : Int) + 16 < 16) = false := decide_eq_false e5
 have e7 : IntKind.i64.wrap ((en : Int) + 16 - 16) = (en : Int) := by rw [IntWalk.i64_in _ (by omega)]; omega
 have e8 : (0 : Int) ≤ (en : Int) := by omega
 have e9 : (en : Int) ≤ (cap : Int) := by omega
 have e10 : ¬ cap = en := by omega
 have e11 : (en : Int) ≤ (en : Int) + 16 := by omega
 clear hK hn hnb hp hpb ha hc hm hc2 hm2 hs hs2 hT hQ hQA ht hR hq2
 go_enter Tryz.func21, Tryz.ntmps21
 go_upto_region 6 with fail
 have hB_0 : Below w.heap.size w w.drew := ⟨rfl, rfl, rfl, Nat.le_refl _, fun _ _ => rfl⟩
 have hR_0 := HR.out _ hB_0
 refine wp_region_held_drew (S := (fun A => A.rangeAt bo (oo + en) (rowC 16 Q))) (by kernel_rfl) ?_ (fun hHeld => ?_)
 ·(try dsimp only)
  (first | assumption | (dsimp only; assumption))
 generalize w.drew = W0 at *
 refine wT 0 ?_ rfl ?_ ?_
 rotate_left
 ·intro wS hSw
  (try dsimp only at hSw)
  go_simp
  (try with_reducible rfl)
 (try simp only [Act.put, zS])
 refine wT 1 ?_ rfl ?_ ?_
 rotate_left
 ·intro wS hSw
  (try dsimp only at hSw)
  go_simp
  (try with_reducible rfl)
 (try simp only [Act.put, zS])
 refine wT 2 ?_ rfl ?_ ?_
 rotate_left
 ·intro wS hSw
  (try dsimp only at hSw)
  go_simp
  (try with_reducible rfl)
 (try simp only [Act.put, zS])
 refine wT 3 ?_ rfl ?_ ?_
 rotate_left
 ·intro wS hSw
  (try dsimp only at hSw)
  go_simp
  (try with_reducible rfl)
 (try simp only [Act.put, zS])
 refine wT 4 ?_ rfl ?_ ?_
 rotate_left
 ·intro wS hSw
  (try dsimp only at hSw)
  go_simp
  (try with_reducible rfl)
 (try simp only [Act.put, zS])
 refine wT 5 ?_ rfl ?_ ?_
 rotate_left
 ·intro wS hSw
  (try dsimp only at hSw)
  go_simp
  (try with_reducible rfl)
 (try simp only [Act.put, zS])
 refine wT 7 ?_ rfl ?_ ?_
 rotate_left
 ·intro wS hSw
  (try dsimp only at hSw)
  go_simp
  (try with_reducible rfl)
 (try simp only [Act.put, zS])
 refine wT 8 ?_ rfl ?_ ?_
 rotate_left
 ·intro wS hSw
  (try dsimp only at hSw)
  go_simp
  (try with_reducible rfl)
 (try simp only [Act.put, zS])
 refine wT 9 ?_ rfl ?_ ?_
 rotate_left
 ·intro wS hSw
  (try dsimp only at hSw)
  go_simp
  (try with_reducible rfl)
 (try simp only [Act.put, zS])
 refine wT 10 ?_ rfl ?_ ?_
 rotate_left
 ·intro wS hSw
  refine exec_s2a (x := .tmp 45) (oa := some ⟨bo, oo + en, none⟩) (len := 16) (cap := cap - en) ?_ ?_ (by decide) <;> rfl
 (try simp only [Act.put, zS])
 refine wT 11 ?_ rfl ?_ ?_
 rotate_left
 ·intro wS hSw
  (have c9 := run_loadAt_mid (P := Tryz.prog) wS bo (oo + en) 82 (rowC 16 Q) _ hSw Tryz.underlying82 rfl HI16.out; rw [HQA.out] at c9; refine exec_ld43 (x := .tmp 46) (v := .pointer (some ⟨bo, oo + en, none⟩)) ?_ ?_ c9 <;> rfl)
 (try simp only [Act.put, zS])
 refine wR [6] ?_
 refine aN rfl fun K hK => ?_
 go_simp
 (refine (HTG.out _ hB_0).mono ?_; rintro e v1 ⟨rfl, hK1, hO1⟩; have hR_1 : v1.rangeAt bo (oo + en) (rowC 16 Q) := HRO.out _ _ hO1 hR_0; have hX1 : Own bx w v1 := (Own.of_below hB_0).trans hO1; clear hB_0 hR_0; skip)
 (try go_wp2_with fail)
 refine hK.out _ _ ?_ fun hHeld => ?_
 ·(try dsimp only)
  (first | assumption | (dsimp only; assumption))
 clear hK K
 (try simp only [Act.put, zS])
 refine wT 12 ?_ rfl ?_ ?_
 rotate_left
 ·intro wS hSw
  refine exec_neq16 (x := .tmp 42) (y := .tmp 47) (r := 82) (C := T) (D := QA) ?_ ?_ ?_ HEQ.out <;> rfl
 (try simp only [Act.put, zS])
 refine wpAnyH_done (by kernel_rfl) ?_ _
 have HK1 := zh hK1
 have HX1 := zh hX1
 clear hK1 hO1 hR_1 hX1
 cases t with
 | false =>
  go_wp2_with fail
  refine bodyPost_ret (results_tmp2 rfl _ _ _) rfl ?_
  exact ⟨HK1.out, HX1.out, .inr ⟨HTT.out, rfl⟩⟩
 | true =>
  go_wp2_with fail
  refine (HCI.out v1 HK1.out HX1.out).mono ?_
  rintro e w2 ⟨v, rfl, hG2, hK2, hO2, hS2⟩
  have HZ := zh (show KG w2 g kb bx W ∧ Own bx w w2 ∧ Grow w2 (v1.heap.size + 2) v en (cphF W nn q) ∧ w.heap.size ≤ v1.heap.size + 2 from ⟨hK2, HX1.out.trans hO2, hG2, by have := HX1.out.size; omega⟩)
  clear hK2 hO2 hG2 hS2
  go_wp2_with fail
  refine bodyPost_ret (results_tmp2 rfl _ _ _) rfl ?_
  exact ⟨HZ.out.1, HZ.out.2.1, .inl ⟨HTT.out, v, _, rfl, HZ.out.2.2.1, HZ.out.2.2.2⟩⟩
end Go.Proofs.YtncfocjmdecapaaGreatDoor
