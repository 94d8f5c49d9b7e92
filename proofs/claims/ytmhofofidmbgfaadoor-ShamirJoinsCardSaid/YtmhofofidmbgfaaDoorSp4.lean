/- What the polynomials through parts are at a place: the contract of shamir.through. -/
import Derived.Test.YtmhofofidmbgfaaDoorSp3
import Derived.Deep.RegionWith
namespace Go.Proofs.YtmhofofidmbgfaaDoor
set_option linter.unusedVariables false
set_option linter.unusedSimpArgs false
open Go.RowKit

theorem wpList_mk {ops : Array Oper} {rest : List Oper} {o : Oper} {a : Act} {w : World} {Q : Exit → Act → World → Prop} (hgd : o.guard = none) (x y : Operand) (ho : o.op = .makeSlice 22 x y) (n : Nat) (hx : a.eval x = .int .i64 (n : Int)) (hy : a.eval y = .int .i64 (n : Int)) (hn : n < 1000000000000)
    (h : wpList Tryd.prog ops Q rest (a.put o.dst (.slice (some ⟨w.heap.size, 0, none⟩) n n)) (w.alloc (.cells (rowC n (fun _ => 0)).toArray 5))) : wpList Tryd.prog ops Q (o :: rest) a w := by
  refine wpList_plain hgd fun K hK => ?_
  have hrun := make_zeros n hn w
  unfold Oper.wp
  simp [execOp, ho, hx, hy, hrun, Result.andThen]
  exact hK _ _ h
/-- Parts put together at a place. -/
def jnF (S : Nat → Sh) (x K j : Nat) : Nat := xsum (fun i => mulN (wF (fun q => (S q).ix) i x K) ((S i).f j)) K
theorem jnF_lt (S : Nat → Sh) (x K j : Nat) : jnF S x K j < 256 := xsum_lt K fun _ _ => mulN_lt _ _
/-- The same, of the first i parts; of byte y already the one more if y < j. -/
def jnP (S : Nat → Sh) (x K i j : Nat) : Nat → Nat := fun y => xsum (fun i => mulN (wF (fun q => (S q).ix) i x K) ((S i).f y)) (if y < j then i + 1 else i)
theorem jnP_lt (S : Nat → Sh) (x K i j y : Nat) : jnP S x K i j y < 256 := xsum_lt _ fun _ _ => mulN_lt _ _
theorem jnP_step {S : Nat → Sh} {x K i j p a b : Nat} (hp : jnP S x K i j j = p) (ha : wF (fun q => (S q).ix) i x K = a) (hb : (S i).f j = b) : upd (jnP S x K i j) j (p ^^^ mulN a b) = jnP S x K i (j + 1) := by
  subst hp; subst ha; subst hb
  funext y
  unfold upd jnP
  by_cases e : y = j
  · subst e; rw [if_pos rfl, if_neg (by omega), if_pos (by omega)]; rfl
  · rw [if_neg e]
    by_cases h : y < j
    · rw [if_pos h, if_pos (by omega)]
    · rw [if_neg h, if_neg (by omega)]
theorem jnP_next {S : Nat → Sh} {x K i L y : Nat} (hy : y < L) : jnP S x K i L y = jnP S x K (i + 1) 0 y := by
  unfold jnP; rw [if_pos hy, if_neg (Nat.not_lt_zero _)]
theorem jnP_end {S : Nat → Sh} {x K y : Nat} : jnP S x K K 0 y = jnF S x K y := by unfold jnP jnF; rw [if_neg (Nat.not_lt_zero _)]
theorem jnP_zero {S : Nat → Sh} {x K y : Nat} : jnP S x K 0 0 y = 0 := by unfold jnP; rw [if_neg (Nat.not_lt_zero _)]; rfl
/-- The first i places. -/
def ixP (S : Nat → Sh) (i : Nat) : Nat → Nat := fun q => if q < i then (S q).ix else 0
theorem ixP_step {S : Nat → Sh} {i x : Nat} (h : (S i).ix = x) : upd (ixP S i) i x = ixP S (i + 1) := by
  subst h
  funext q
  unfold upd ixP
  by_cases e : q = i
  · subst e; rw [if_pos rfl, if_pos (by omega)]
  · rw [if_neg e]
    by_cases h : q < i
    · rw [if_pos h, if_pos (by omega)]
    · rw [if_neg h, if_neg (by omega)]
/-- A product, where two rows stay. -/
theorem mul_rows {tb a c gs j L v gw i K u : Nat} {F G : Nat → Nat} (w : World) (h : TabIn w tb) (ha : a < 256) (hc : c < 256) (hR : Row w gs L F) (hv : F j = v) (hj : j < L) (hn : gs ≠ tb) (hR2 : Row w gw K G) (hu : G i = u) (hi : i < K) (hn2 : gw ≠ tb) :
    Calls Tryd.prog 53 #[.pointer (some ⟨tb, 0, none⟩), .int .u8 a, .int .u8 c] w fun e w' => e = .returned (.int .u8 (mulN a c)) ∧ Left tb w w' ∧ w'.cell? ⟨gs, j, none⟩ = some (.int .u8 v) ∧ w'.frozen? ⟨gs, j, none⟩ = false ∧ w'.cell? ⟨gw, i, none⟩ = some (.int .u8 u) :=
  (mul_any tb a c w h ha hc).mono fun e w' ⟨he, hl⟩ => ⟨he, hl, by rw [← hv]; exact (hR.own hl.2 hn).cell hj, Blk.free (hR.own hl.2 hn) j, by rw [← hu]; exact (hR2.own hl.2 hn2).cell hi⟩
/-- What through answers of a plan that may be. -/
def ThrR (tb : Nat) (S : Nat → Sh) (x K E : Nat) (w : World) (e : Ending) (w' : World) : Prop :=
  (E = 0 ∧ ∃ g, e = .returned (.tuple #[.slice (some ⟨g, 0, none⟩) (S 0).len (S 0).len, .nilIface]) ∧ w.heap.size ≤ g ∧ Row w' g (S 0).len (jnF S x K) ∧ Left tb w w') ∨
  (E ≠ 0 ∧ e = .returned (.tuple #[.slice none 0 0, .iface 81 (.int .i64 (E : Int))]) ∧ Left tb w w')
set_option maxRecDepth 100000 in
set_option maxHeartbeats 4000000 in
theorem through_any (tb n cs Kp N gen x : Nat) (oa : Option Addr) (S : Nat → Sh) (w : World) (hT : TabIn w tb) (hS : Shs tb w oa n S) (hix : ∀ i, i < n → (S i).ix < 256) (hnc : n ≤ cs) (hm : cs ≤ maxLen) (h2 : 2 ≤ Kp) (hKN : Kp ≤ N) (hN : N ≤ 255) (hx : x < 256) :
    Calls Tryd.prog 42 #[.pointer (some ⟨tb, 0, none⟩), .slice oa n cs, .agg #[.int .i64 (Kp : Int), .int .i64 (N : Int), .int .u32 (gen : Int)], .int .u8 (x : Int)] w (ThrR tb S x Kp (needE S n Kp gen) w) := by
  have HC := Lib.hid (fun w => check_yes (Kp : Int) (N : Int) (gen : Int) w ⟨by omega, by omega, by omega⟩)
  have HND := Lib.hid (fun w (hS : Shs tb w oa n S) => needed_any tb n cs Kp gen (N : Int) oa S w hS hix hnc hm h2 (by omega))
  have HNM : Hid (n ≤ cs ∧ cs ≤ maxLen ∧ 2 ≤ Kp ∧ Kp ≤ N ∧ N ≤ 255) := Lib.hid ⟨hnc, hm, h2, hKN, hN⟩
  have HS := Lib.hid hS
  have HT := Lib.hid hT
  have HIX := Lib.hid hix
  obtain ⟨E, hE⟩ : ∃ x, needE S n Kp gen = x := ⟨_, rfl⟩
  rw [hE] at HND ⊢
  have HEE := Lib.hid hE
  clear hT hS hix hnc hm hE
  go_enter Tryd.func42, Tryd.ntmps42
  go_wp2_with fail
  refine (HC.out _).mono ?_
  rintro e w1 ⟨rfl, hb⟩
  have HB1 : Hid (Blk w1 w.heap.size #[.int .i64 (Kp : Int), .int .i64 (N : Int), .int .u32 (gen : Int)] 28 ∧ Below w.heap.size w w1) := Lib.hid ⟨Blk.below (Blk.new _ _ _) hb (by simp), ((Below.refl _ _).alloc (Nat.le_refl _) _).trans (hb.mono (by simp))⟩
  have c0 : w1.cell? ⟨w.heap.size, 0, none⟩ = some (.int .i64 (Kp : Int)) := by rw [Blk.cell HB1.out.1]; rfl
  have c1 : w1.cell? ⟨w.heap.size, 1, none⟩ = some (.int .i64 (N : Int)) := by rw [Blk.cell HB1.out.1]; rfl
  have c2 : w1.cell? ⟨w.heap.size, 2, none⟩ = some (.int .u32 (gen : Int)) := by rw [Blk.cell HB1.out.1]; rfl
  clear hb
  go_wp2_with fail
  refine (HND.out _ (HS.out.later HB1.out.2)).mono ?_
  rintro e wA ⟨hR, hb⟩
  have HA1 : Hid (Below w.heap.size w wA) := Lib.hid (HB1.out.2.trans (hb.mono HB1.out.2.size))
  clear hb c0 c1 c2 HB1
  rcases hR with ⟨rfl, rfl⟩ | ⟨hE, rfl⟩
  case inr =>
    have HE0 := Lib.hid hE
    clear hE
    go_wp2_with fail
    go_ret2
    exact .inr ⟨HE0.out, rfl, Left.of_below HT.out HA1.out⟩
  have HOK := Lib.hid (needE_zero HEE.out)
  have HPL := Lib.hid (ok_places HEE.out (by omega) (by omega))
  have hK3 : Kp < 1000000000000 := by omega
  go_wp2_with (refine wpList_mk rfl (.tmp 39) (.tmp 39) rfl Kp rfl rfl hK3 ?_)
  obtain ⟨gx, hgx⟩ : ∃ x, wA.heap.size = x := ⟨_, rfl⟩
  have HGX := Lib.hid hgx
  have hX0 : Row (wA.alloc (.cells (rowC Kp (fun _ => 0)).toArray 5)) gx Kp (ixP S 0) := by
    rw [← hgx]; exact (row_new wA Kp (fun _ => 0)).congr fun i _ => by unfold ixP; rw [if_neg (Nat.not_lt_zero _)]
  have hb0 : Below gx wA (wA.alloc (.cells (rowC Kp (fun _ => 0)).toArray 5)) := by rw [← hgx]; exact (Below.refl _ _).alloc (Nat.le_refl _) _
  obtain ⟨wX, hwX⟩ : ∃ x, wA.alloc (.cells (rowC Kp (fun _ => 0)).toArray 5) = x := ⟨_, rfl⟩
  rw [hwX] at hX0 hb0 ⊢
  rw [hgx]
  clear hwX hgx
  go_wp2_with fail
  go_loopw [43] (fun x wr => ∃ i : Nat, i ≤ Kp ∧ x = .int .i64 (i : Int) ∧ Row wr gx Kp (ixP S i) ∧ Below gx wA wr) (fun x _ => Kp - (intOf x).toNat)
  case atStart => exact ⟨0, Nat.zero_le _, rfl, hX0, hb0⟩
  case round =>
    obtain ⟨i, hi, rfl, hX, hb⟩ := hrel
    have HX := Lib.hid hX
    have HB := Lib.hid hb
    clear hX hb hX0 hb0
    by_cases hlt : i < Kp
    · obtain ⟨b, off, od, cap, rfl, -, -, -, -, -, -, c0, c1, c2⟩ := ((HS.out.later HA1.out).later (HGX.out ▸ HB.out)).get i (by have := HOK.out.1; omega)
      have hi0 : (0 : Int) ≤ (i : Int) := by omega
      have hi1 : (i : Int) < (Kp : Int) := by omega
      have hx0 := HX.out.cell hlt
      have hf0 := Blk.free HX.out i
      have hgw : gx < wr.heap.size := HX.out.lt
      obtain ⟨xi, hxi⟩ : ∃ x, (S i).ix = x := ⟨_, rfl⟩
      rw [hxi] at c0
      have HXI := Lib.hid hxi
      have hX2 := HX.out.set i xi
      rw [ixP_step hxi] at hX2
      have HX2 := Lib.hid ((hX2 : Row _ gx Kp _).later ((Below.refl _ _).alloc (Nat.le_refl _) (.cells #[.int .u8 (xi : Int), .int .u32 ((S i).gen : Int), .slice od (S i).len cap] 52)))
      have hb2 := HB.out.setCell (p := ⟨gx, i, none⟩) (Nat.le_refl _) (.int .u8 (xi : Nat))
      have HB2 := Lib.hid (hb2.trans ((Below.refl gx _).alloc (by simp [World.setCell]; omega) (.cells #[.int .u8 (xi : Int), .int .u32 ((S i).gen : Int), .slice od (S i).len cap] 52)))
      clear hxi hX2 hb2
      go_wp2_with fail
      go_roundw
      case rel => exact ⟨i + 1, by omega, by go_num, HX2.out, HB2.out⟩
      case measure => simp [intOf]; omega
    · obtain rfl : Kp = i := by omega
      have HWT := Lib.hid (weights_any tb (some ⟨gx, 0, none⟩) Kp Kp (fun q => (S q).ix) x wr ((HT.out.later HA1.out).later (HGX.out ▸ HB.out)) ((HX.out.congr fun q hq => (if_pos hq : ixP S Kp q = (S q).ix)).bytes fun q hq => HIX.out q (by have := HOK.out.1; omega)) (Apart.of_ne (by have := HT.out.lt; have := HA1.out.size; have := HGX.out; omega)) (by unfold maxLen; omega) hx HPL.out)
      clear hlt hi
      go_wp2_with fail
      refine HWT.out.mono ?_
      rintro e w2 ⟨gw, rfl, hgw, hW, hL⟩
      have HOW : Hid (Own tb w w2) := Lib.hid ((Own.of_below (HA1.out.trans ((HGX.out ▸ HB.out : Below wA.heap.size wA wr).mono HA1.out.size))).trans hL.2)
      have HS2 := Lib.hid (HS.out.own HOW.out)
      have HW := Lib.hid (⟨hW, hgw, hL.1⟩ : Row w2 gw Kp (fun a => wF (fun q => (S q).ix) a x Kp) ∧ wr.heap.size ≤ gw ∧ TabIn w2 tb)
      have htw : tb < gw := by have := HT.out.lt; have := HA1.out.size; have := HX.out.lt; have := HGX.out; omega
      have HTW := Lib.hid htw
      have hg0 := badB_no (HOK.out.2.2 0 (by omega))
      obtain ⟨L, hL0⟩ : ∃ x, (S 0).len = x := ⟨_, rfl⟩
      rw [hL0] at hg0
      have HLL := Lib.hid hL0
      have hL1 : 1 ≤ L ∧ L ≤ 64 := ⟨hg0.2.2.2.1, hg0.2.2.2.2⟩
      have HSL : Hid (∀ i, i < Kp → (S i).len = L) := Lib.hid fun i hi => by rw [← hL0]; exact (badB_no (HOK.out.2.2 i hi)).2.2.1
      have hL3 : L < 1000000000000 := by omega
      obtain ⟨b, off, od, cap, rfl, -, -, -, -, -, -, c0, c1, c2⟩ := HS2.out.get 0 (by have := HOK.out.1; omega)
      rw [Nat.zero_mul, Nat.add_zero, hL0] at c2
      have hk0 : (0 : Int) < (Kp : Int) := by omega
      have hk00 : 0 < Kp := by omega
      clear hg0 hL0 hW hgw hL c0 c1 HX HB HWT
      clear htw
      go_wp2_with (refine wpList_mk rfl (.tmp 68) (.tmp 68) rfl L rfl rfl hL3 ?_)
      have hX0 : Row (w2.alloc (.cells (rowC L (fun _ => 0)).toArray 5)) w2.heap.size L (jnP S x Kp 0 0) := (row_new w2 L (fun _ => 0)).congr fun i _ => jnP_zero.symm
      have hb0 : Below w2.heap.size w2 (w2.alloc (.cells (rowC L (fun _ => 0)).toArray 5)) := (Below.refl _ _).alloc (Nat.le_refl _) _
      have hT0 : TabIn (w2.alloc (.cells (rowC L (fun _ => 0)).toArray 5)) tb := HW.out.2.2.below hb0
      have hO0 : Own tb w2 (w2.alloc (.cells (rowC L (fun _ => 0)).toArray 5)) := Own.of_below hb0
      obtain ⟨gs, hgs⟩ : ∃ x, w2.heap.size = x := ⟨_, rfl⟩
      have hgg : gw < gs := by rw [← hgs]; exact HW.out.1.lt
      have HGS := Lib.hid hgs
      obtain ⟨wX2, hwX⟩ : ∃ x, w2.alloc (.cells (rowC L (fun _ => 0)).toArray 5) = x := ⟨_, rfl⟩
      rw [hwX, hgs] at hX0
      rw [hwX] at hT0 hO0 ⊢
      rw [hgs]
      have hne : gs ≠ tb ∧ gw ≠ tb := by have := HTW.out; omega
      clear hwX hgs hb0 c2
      go_wp2_with fail
      go_loopw [72] (fun y ws => ∃ i : Nat, i ≤ Kp ∧ y = .int .i64 (i : Int) ∧ Row ws gs L (jnP S x Kp i 0) ∧ TabIn ws tb ∧ Own tb w2 ws) (fun y _ => Kp - (intOf y).toNat)
      case atStart => exact ⟨0, Nat.zero_le _, rfl, hX0, hT0, hO0⟩
      case round =>
        obtain ⟨i, hi, rfl, hR, hTr, hOr⟩ := hrel
        clear hX0 hT0 hO0
        by_cases hlt : i < Kp
        · obtain ⟨b9, off9, od, cap, e9, hb9, hBd, -, -, -, hAd, c0, c1, c2⟩ := HS2.out.get i (by have := HOK.out.1; omega)
          cases e9
          have c0 := hOr.cell c0 hb9
          have c1 := hOr.cell c1 hb9
          have c2 := hOr.cell c2 hb9
          have hi0 : (0 : Int) ≤ (i : Int) := by omega
          have hi1 : (i : Int) < (Kp : Int) := by omega
          rw [HSL.out i hlt] at c2 hBd hAd
          obtain ⟨wB, hwB⟩ : ∃ x, wr.alloc (.cells #[.int .u8 ((S i).ix : Int), .int .u32 ((S i).gen : Int), .slice od L cap] 52) = x := ⟨_, rfl⟩
          have hb5 : Below wr.heap.size wr wB := by rw [← hwB]; exact (Below.refl _ _).alloc (Nat.le_refl _) _
          have hR5 := (hR.later hb5).congr (f' := jnP S x Kp i 0) (fun _ _ => rfl)
          have hT5 := hTr.below hb5
          have hO5 := hOr.trans (Own.of_below hb5)
          have HBD := Lib.hid hBd
          have HAD := Lib.hid hAd
          have HO5 := Lib.hid hO5
          have hsx : wr.heap.size ≤ wB.heap.size := hb5.size
          have d2 : wB.cell? ⟨wr.heap.size, 2, none⟩ = some (.slice od L cap) := by rw [← hwB]; exact World.cell?_alloc_mark _ _ _ _ _
          clear hR hTr hOr hBd hAd hb5
          obtain ⟨ai, hai⟩ : ∃ y, wF (fun q => (S q).ix) i x Kp = y := ⟨_, rfl⟩
          have ha8 : ai < 256 := by rw [← hai]; exact wF_lt _ _ _ _
          have HAI := Lib.hid hai
          clear hai
          go_wp2_with fail
          clear hwB d2 c0 c1 c2 hsx
          go_loopw [80] (fun y ws => ∃ j : Nat, j ≤ L ∧ y = .int .i64 (j : Int) ∧ Row ws gs L (jnP S x Kp i j) ∧ TabIn ws tb ∧ Own tb w2 ws) (fun y _ => L - (intOf y).toNat)
          case atStart => exact ⟨0, Nat.zero_le _, rfl, hR5, hT5, hO5⟩
          case round =>
            obtain ⟨j, hj, rfl, hR, hTr, hOr⟩ := hrel
            clear hR5 hT5 hO5
            by_cases hlj : j < L
            · obtain ⟨hb8, bd, bo, ed, hc⟩ := (HBD.out.own hOr HAD.out) j hlj
              subst ed
              have hj0 : (0 : Int) ≤ (j : Int) := by omega
              have hj1 : (j : Int) < (L : Int) := by omega
              obtain ⟨bj, hbj⟩ : ∃ y, (S i).f j = y := ⟨_, rfl⟩
              rw [hbj] at hb8 hc
              have HBJ := Lib.hid hbj
              obtain ⟨pv, hpv⟩ : ∃ y, jnP S x Kp i j j = y := ⟨_, rfl⟩
              have hp8 : pv < 256 := by rw [← hpv]; exact jnP_lt _ _ _ _ _ _
              have HPV := Lib.hid hpv
              have hm8 := mulN_lt ai bj
              have hWr := HW.out.1.own hOr hne.2
              have HR := Lib.hid hR.drew
              have HWR := Lib.hid hWr.drew
              have HTR : Hid (TabIn wr.drew tb) := Lib.hid hTr
              have HOR := Lib.hid hOr.drew
              have d1 : wr.cell? ⟨gs, j, none⟩ = some (.int .u8 (pv : Nat)) := by rw [← hpv]; exact hR.cell hlj
              have d3 : wr.cell? ⟨gw, i, none⟩ = some (.int .u8 (ai : Nat)) := by rw [← HAI.out]; exact hWr.cell hlt
              clear hbj hpv hR hWr hTr hOr
              go_wp2_with fail
              go_region_with
                (first
                  | (go_at_call 53; refine (mul_rows (gs := gs) (gw := gw) _ HTR.out ha8 hb8 HR.out HPV.out hlj hne.1 HWR.out HAI.out hlt hne.2).mono ?_; rintro e w1 ⟨rfl, hL1, hc1, hf1, hc2⟩)
                  | (go_at_call 47; refine (add_any _ _ _ hp8 hm8).mono ?_; rintro e w' ⟨rfl, rfl⟩))
              all_goals
                have hY2 := (HR.out.own hL1.2 hne.1).set j (pv ^^^ mulN ai bj)
                rw [jnP_step HPV.out HAI.out HBJ.out] at hY2
                have hT2 : TabIn (w1.setCell ⟨gs, j, none⟩ (.int .u8 (pv ^^^ mulN ai bj : Nat))) tb := hL1.1.set_other (Ne.symm hne.1) j _
                have hO2 : Own tb w2 (w1.setCell ⟨gs, j, none⟩ (.int .u8 (pv ^^^ mulN ai bj : Nat))) := (HOR.out.trans hL1.2).set_new j _ (by have := HGS.out; omega)
                have HY2 := Lib.hid hY2
                have HT2 := Lib.hid hT2
                have HO2 := Lib.hid hO2
                clear hY2 hT2 hO2 hL1 hc1 hf1 hc2
                go_wp2_with fail
                go_roundw
                case rel => exact ⟨j + 1, by omega, by go_num, HY2.out, HT2.out, HO2.out⟩
                case measure => simp [intOf]; omega
            · obtain rfl : L = j := by omega
              have HY2 := Lib.hid (hR.congr fun y hy => jnP_next (S := S) (x := x) (K := Kp) (i := i) hy)
              have HT2 := Lib.hid hTr
              have HO2 := Lib.hid hOr
              clear hR hTr hOr
              go_wp2_with fail
              go_roundw
              case rel => exact ⟨i + 1, by omega, by go_num, HY2.out, HT2.out, HO2.out⟩
              case measure => simp [intOf]; omega
        · obtain rfl : Kp = i := by omega
          have HY2 := Lib.hid (hR.congr fun y _ => (jnP_end (S := S) (x := x) (K := Kp) (y := y)))
          have HT2 := Lib.hid hTr
          have HO2 := Lib.hid hOr
          clear hR hTr hOr
          go_wp2_with fail
          go_ret2
          exact .inl ⟨rfl, gs, by rw [HLL.out]; rfl, by have := HOW.out.size; have := HGS.out; omega, by rw [HLL.out]; exact HY2.out, HT2.out, HOW.out.trans HO2.out⟩
end Go.Proofs.YtmhofofidmbgfaaDoor
