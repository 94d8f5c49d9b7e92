/- The walk of EngineKeeps. -/
import Derived.Test.YtkaddilgegimjaaDoorEkB
import Derived.Test.YtkaddilgegimjaaDoorEn6
import Derived.Test.YtkaddilgegimjaaDoorEnA
import Derived.Deep.DeepCutAuto
import Derived.Deep.CutBlock
import Derived.Deep.LoopGhost
import Derived.Deep.RegionHeld3
namespace Go.Proofs.YtkaddilgegimjaaDoor
set_option linter.unusedVariables false
set_option linter.unusedSimpArgs false
open Go.RowKit


theorem ks_start {w w1 : World} {M : Nat} (h : Wn w w1) (hM : 1 ≤ M ∧ M ≤ 8) : KS w w1.heap.size (w1.heap.size + 1) M 0 (.slice none 0 0) (fun _ => ⟨#[]⟩) (fun _ => 0) 0 (.slice none 0 0) V00 ((w1.alloc (.cells #[.slice none 0 0, .int .u32 0, .int .i64 (M : Int)] 79)).alloc (.cells #[.int .i64 0, .int .i64 0, .int .i64 0, .int .i64 0, .int .i64 0, .int .i64 0, .int .i64 0, .int .i64 0, .int .i64 0, .int .i64 0, .int .i64 0, .int .i64 0, .int .i64 0, .int .i64 0, .int .i64 0, .int .i64 0, .int .i64 0, .int .i64 0, .int .i64 0, .int .i64 0, .int .i64 0, .int .i64 0, .int .i64 0, .int .i64 0, .int .i64 0, .int .i64 0, .int .i64 0, .int .i64 0, .int .i64 0, .int .i64 0, .int .i64 0, .int .i64 0, .int .i64 0, .int .i64 0, .int .i64 0, .int .i64 0, .int .i64 0, .int .i64 0, .int .i64 0, .int .i64 0, .int .i64 0, .int .i64 0, .int .i64 0, .int .i64 0, .int .i64 0, .int .i64 0, .int .i64 0, .int .i64 0, .int .i64 0, .int .i64 0, .int .i64 0, .int .i64 0, .int .i64 0, .int .i64 0, .int .i64 0, .int .i64 0, .int .i64 0, .int .i64 0, .int .i64 0, .int .i64 0, .int .i64 0, .int .i64 0, .int .i64 0, .int .i64 0] 106)) := by
  have hs := h.bel.size
  have h64 : ∀ k, k < 64 → (#[.int .i64 0, .int .i64 0, .int .i64 0, .int .i64 0, .int .i64 0, .int .i64 0, .int .i64 0, .int .i64 0, .int .i64 0, .int .i64 0, .int .i64 0, .int .i64 0, .int .i64 0, .int .i64 0, .int .i64 0, .int .i64 0, .int .i64 0, .int .i64 0, .int .i64 0, .int .i64 0, .int .i64 0, .int .i64 0, .int .i64 0, .int .i64 0, .int .i64 0, .int .i64 0, .int .i64 0, .int .i64 0, .int .i64 0, .int .i64 0, .int .i64 0, .int .i64 0, .int .i64 0, .int .i64 0, .int .i64 0, .int .i64 0, .int .i64 0, .int .i64 0, .int .i64 0, .int .i64 0, .int .i64 0, .int .i64 0, .int .i64 0, .int .i64 0, .int .i64 0, .int .i64 0, .int .i64 0, .int .i64 0, .int .i64 0, .int .i64 0, .int .i64 0, .int .i64 0, .int .i64 0, .int .i64 0, .int .i64 0, .int .i64 0, .int .i64 0, .int .i64 0, .int .i64 0, .int .i64 0, .int .i64 0, .int .i64 0, .int .i64 0, .int .i64 0] : Array Value)[k]? = some (.int .i64 0) := fun k hk => by
    rw [show (#[.int .i64 0, .int .i64 0, .int .i64 0, .int .i64 0, .int .i64 0, .int .i64 0, .int .i64 0, .int .i64 0, .int .i64 0, .int .i64 0, .int .i64 0, .int .i64 0, .int .i64 0, .int .i64 0, .int .i64 0, .int .i64 0, .int .i64 0, .int .i64 0, .int .i64 0, .int .i64 0, .int .i64 0, .int .i64 0, .int .i64 0, .int .i64 0, .int .i64 0, .int .i64 0, .int .i64 0, .int .i64 0, .int .i64 0, .int .i64 0, .int .i64 0, .int .i64 0, .int .i64 0, .int .i64 0, .int .i64 0, .int .i64 0, .int .i64 0, .int .i64 0, .int .i64 0, .int .i64 0, .int .i64 0, .int .i64 0, .int .i64 0, .int .i64 0, .int .i64 0, .int .i64 0, .int .i64 0, .int .i64 0, .int .i64 0, .int .i64 0, .int .i64 0, .int .i64 0, .int .i64 0, .int .i64 0, .int .i64 0, .int .i64 0, .int .i64 0, .int .i64 0, .int .i64 0, .int .i64 0, .int .i64 0, .int .i64 0, .int .i64 0, .int .i64 0] : Array Value) = Array.replicate 64 (.int .i64 0) from rfl]
    simp [hk]
  refine ⟨(h.alloc _).alloc _, by omega, hs, by omega, blk2 _ _ _ _ _, ⟨_, _, blk2' _ _ _ _ _, rfl, h64⟩, ⟨w1.heap.size + 2, by omega, by omega, by simp, GV.nil _ _ _⟩, ⟨w1.heap.size + 2, by omega, by omega, by simp, (by intro e; cases e), .inl ⟨rfl, rfl⟩⟩, ⟨⟨by omega, by omega, by omega, ⟨fun _ => rfl, fun _ => rfl⟩, Nat.le_refl _⟩, fun i hi => absurd hi (Nat.not_lt_zero _)⟩, by omega, fun j hj => absurd hj (Nat.not_lt_zero _), fun _ _ => rfl⟩

/-- What the switch leaves: a secret in the new box, or all as it was. -/
def KR1 (w : World) (bs ba bt M d j ns : Nat) (dv sv : Value) (D : Nat → ByteArray) (st : Nat → Int) (V : Nat → Ver) (s8 s15 : Value) (wx : World) : Prop :=
  (s15 = .nilIface ∧ ∃ (d' n' : Nat) (D' : Nat → ByteArray) (st' : Nat → Int) (sv' : Value) (V' : Nat → Ver), d' ≤ j + 1 ∧ KS w bt ba M d' s8 D' st' n' sv' V' wx ∧ Blk wx bs #[sv, .int .u32 (d : Int), .int .i64 (M : Int)] 79 ∧ s8.ownBlock ≠ some bs) ∨
  ((∃ k : Int, s15 = .iface 146 (.int .i64 k)) ∧ s8 = dv ∧ KS w bs ba M d dv D st ns sv V wx)
/-- What stands behind it. -/
def KR2 (w : World) (bs ba M j : Nat) (s8 : Value) (wx : World) : Prop := ∃ (d' n' : Nat) (D' : Nat → ByteArray) (st' : Nat → Int) (sv' : Value) (V' : Nat → Ver), d' ≤ j + 1 ∧ KS w bs ba M d' s8 D' st' n' sv' V' wx
theorem KS.drew {w0 w : World} {bb ba M d n : Nat} {dv sv : Value} {D : Nat → ByteArray} {st : Nat → Int} {V : Nat → Ver} (h : KS w0 bb ba M d dv D st n sv V w) : KS w0 bb ba M d dv D st n sv V w.drew := h.later ⟨rfl, rfl, rfl, Nat.le_refl _, fun _ _ => rfl⟩
theorem KS.dvb {w0 w : World} {bb ba M d n : Nat} {dv sv : Value} {D : Nat → ByteArray} {st : Nat → Int} {V : Nat → Ver} (h : KS w0 bb ba M d dv D st n sv V w) : ∀ q, dv.ownBlock = some q → q < w.heap.size := fun q hq => by
  obtain ⟨_, hD⟩ := h.ds
  exact (hD.ownb q hq).2
theorem KS.svb {w0 w : World} {bb ba M d n : Nat} {dv sv : Value} {D : Nat → ByteArray} {st : Nat → Int} {V : Nat → Ver} (h : KS w0 bb ba M d dv D st n sv V w) : ∀ q, sv.ownBlock = some q → q < w.heap.size := fun q hq => by
  obtain ⟨_, _, _, _, _, _, ⟨b1, _, _, _, h8⟩, _⟩ := h
  exact (h8.ownb q hq).2
theorem ks_in {n d M kk : Nat} {V : Nat → Ver} (hS : SecOk n d M V) (hm : n = min d M) (h1 : 1 ≤ kk) (h2 : kk ≤ d) (h3 : d < kk + M) : ∃ i, i < n ∧ (V i).n = seek d kk := by
  have hi : kk + n - d - 1 < n := by omega
  have := (hS.2 _ hi).1
  exact ⟨_, hi, by unfold seek; rw [if_neg (by omega)]; omega⟩
theorem ks_out {n d M kk : Nat} {V : Nat → Ver} (hS : SecOk n d M V) (hm : n = min d M) (h1 : 1 ≤ kk) (h : d < kk ∨ kk + M ≤ d) : ∀ i, i < n → (V i).n ≠ seek d kk := fun i hi e => by
  have := (hS.2 _ hi).1
  unfold seek at e; rw [if_neg (by omega)] at e
  omega
theorem KS.lens {w0 w : World} {bb ba M d n : Nat} {dv sv : Value} {D : Nat → ByteArray} {st : Nat → Int} {V : Nat → Ver} (h : KS w0 bb ba M d dv D st n sv V w) : n ≤ maxLen := by
  have h1 := h.sec.1.2.1
  have h2 := h.sec.1.2.2.1
  unfold maxLen; omega
theorem KS.verss {w0 w : World} {bb ba M d n c : Nat} {o : Option Addr} {dv : Value} {D : Nat → ByteArray} {st : Nat → Int} {V : Nat → Ver} (h : KS w0 bb ba M d dv D st n (.slice o n c) V w) : Vers w o n V := by
  obtain ⟨_, _, e, _, h1⟩ := h.vers
  cases e
  exact h1
theorem KS.dne {w0 w : World} {bb ba M d n : Nat} {dv sv : Value} {D : Nat → ByteArray} {st : Nat → Int} {V : Nat → Ver} (h : KS w0 bb ba M d dv D st n sv V w) : dv.ownBlock ≠ some bb := by
  obtain ⟨_, _, _, _, _, _, _, ⟨b2, _, _, _, h11, _⟩, _⟩ := h
  exact h11
theorem KS.lo {w0 w : World} {bb ba M d n : Nat} {dv sv : Value} {D : Nat → ByteArray} {st : Nat → Int} {V : Nat → Ver} (h : KS w0 bb ba M d dv D st n sv V w) : w0.heap.size ≤ bb ∧ w0.heap.size ≤ ba := ⟨h.2.2.1, h.2.1⟩
/-- The switch's end where a state was stored. -/
theorem kr1_set {w W w2 wx : World} {bs ba bt M d j ns n' c' cs q : Nat} {dv : Value} {os o' : Option Addr} {D : Nat → ByteArray} {st : Nat → Int} {V V' : Nat → Ver} {s : Int} (h : KS w bs ba M d dv D st ns (.slice os ns cs) V W) (hT : Blk W bt #[.slice none 0 0, .int .u32 0, .int .i64 0] 79) (h1 : bs < bt) (h2 : ba < bt) (h3 : ∀ x, dv.ownBlock = some x → x < bt)
    (hG : GV w2 W.heap.size (.slice o' n' c') n' V') (hb : Below W.heap.size W w2) (hn : n' = ns) (hS : SecOk ns d M V') (hK : KM ns d V' D (setS st q s)) (hq : q < 64) (hdj : d ≤ j)
    (hx : Below ((set3 w2 bt (.slice o' n' c') (.int .u32 (d : Int)) (.int .i64 (M : Int))).setCell ⟨ba, q, none⟩ (.int .i64 s)).heap.size ((set3 w2 bt (.slice o' n' c') (.int .u32 (d : Int)) (.int .i64 (M : Int))).setCell ⟨ba, q, none⟩ (.int .i64 s)) wx) : KR1 w bs ba bt M d j ns dv (.slice os ns cs) D st V dv .nilIface wx := by
  subst hn
  have h3' : dv.ownBlock ≠ some bt := fun e => by have := h3 bt e; omega
  have hf := (h.changed hT h1 (by omega) h3' hG hb hS h.mn hK hq).later hx
  refine .inl ⟨rfl, d, n', D, _, _, V', by omega, hf, ?_, h.dne⟩
  have hO := set3_own w2 bt (.slice o' n' c') (.int .u32 (d : Int)) (.int .i64 (M : Int))
  have hB1 := hO.blk (h.blk.below hb h.blk.lt) (by omega)
  have hne : bs ≠ ba := h.2.2.2.1
  have hB2 := ((Own.refl ba _).set q (.int .i64 s)).blk hB1 hne
  exact hB2.below hx hB2.lt
/-- The switch's end where nothing was done. -/
theorem kr1_err {w W w2 wx : World} {bs ba bt M d j ns cs : Nat} {dv : Value} {os : Option Addr} {D : Nat → ByteArray} {st : Nat → Int} {V : Nat → Ver} {k : Int} (h : KS w bs ba M d dv D st ns (.slice os ns cs) V W) (hT : Blk W bt #[.slice none 0 0, .int .u32 0, .int .i64 0] 79) (h1 : bs < bt) (h2 : ba < bt) (h3 : ∀ x, dv.ownBlock = some x → x < bt) (h4 : ∀ x, (Value.slice os ns cs).ownBlock = some x → x < bt)
    (hb : Below W.heap.size W w2) (hx : Below (set3 w2 bt (.slice none 0 0) (.int .u32 0) (.int .i64 0)).heap.size (set3 w2 bt (.slice none 0 0) (.int .u32 0) (.int .i64 0)) wx) : KR1 w bs ba bt M d j ns dv (.slice os ns cs) D st V dv (.iface 146 (.int .i64 k)) wx := by
  have h3' : dv.ownBlock ≠ some bt := fun e => by have := h3 bt e; omega
  have h4' : (Value.slice os ns cs).ownBlock ≠ some bt := fun e => by have := h4 bt e; omega
  have hlo : w.heap.size ≤ bt := by have := h.lo.1; omega
  have hK := h.later hb
  have hB := hT.below hb hT.lt
  have g1 := hK.own (k := 0) (x := .slice none 0 0) hB no_u8_3 hlo (by omega) (by omega) h4' h3'
  have b1 : Blk (w2.setCell ⟨bt, 0, none⟩ (.slice none 0 0)) bt #[.slice none 0 0, .int .u32 0, .int .i64 0] 79 := by simpa using hB.set 0 (.slice none 0 0)
  have g2 := g1.own (k := 1) (x := .int .u32 0) b1 no_u8_3 hlo (by omega) (by omega) h4' h3'
  have b2 : Blk ((w2.setCell ⟨bt, 0, none⟩ (.slice none 0 0)).setCell ⟨bt, 1, none⟩ (.int .u32 0)) bt #[.slice none 0 0, .int .u32 0, .int .i64 0] 79 := by simpa using b1.set 1 (.int .u32 0)
  have g3 := g2.own (k := 2) (x := .int .i64 0) b2 no_u8_3 hlo (by omega) (by omega) h4' h3'
  exact .inr ⟨⟨k, rfl⟩, rfl, g3.later hx⟩
theorem Bytes.set3 {w : World} {od : Option Addr} {len m c m' c' b : Nat} {f : Nat → Nat} {a a' : Option Addr} {x y x' y' : Int} {t : TypeId} (h : Bytes w od len f) (hB : Blk w b #[.slice a m c, .int .u32 x, .int .i64 y] t) : Bytes (set3 w b (.slice a' m' c') (.int .u32 x') (.int .i64 y')) od len f := by
  have b1 := hB.set 0 (.slice a' m' c')
  have b2 := b1.set 1 (.int .u32 x')
  exact ((h.set_apart hB no_u8_3).set_apart b1 (by simpa using no_u8_3 (a := a') (n := m') (c := c') (x := x) (y := y))).set_apart b2 (by simpa using no_u8_3 (a := a') (n := m') (c := c') (x := x') (y := y))
set_option maxRecDepth 100000 in
set_option maxHeartbeats 16000000 in
theorem keeps_any (mo M : Nat) (oa : Option Addr) (n cp : Nat) (A : Nat → AskD) (w : World) (hg : Handle w) (hmo : mo ≤ 255) (hM : M = 1 + mo % 8) (hn : n ≤ maxLen) (hA : Asks w oa n A) :
    Calls Tryd.prog 10 #[.int .u8 (mo : Int), .slice oa n cp] w fun e w' => e = .returned (.bool true) ∧ Below w.heap.size w w' := by
  have HA := Lib.hid hA
  have HG := Lib.hid hg
  have hM1 : 1 + (mo : Int) % 8 = (M : Int) := by omega
  have HM := Lib.hid (show 1 ≤ M ∧ M ≤ 8 by omega)
  unfold maxLen at hn
  have hn0 : (n : Int) ≤ 9223372036854775807 := by omega
  have hmo0 : (mo : Int) ≤ 255 := by omega
  clear hA hg hM hn hmo
  go_enter Tryd.func10, Tryd.ntmps10
  go_wp2_with fail
  refine (new_ok (M : Int) (by have := HM.out; omega) (by have := HM.out; omega) _).mono ?_
  rintro e w1 ⟨rfl, hb1⟩
  have HW1 := Lib.hid ((Wn.new HG.out).step hb1)
  clear hb1 HG hM1
  go_wp2_with fail
  go_loopg [8, 10] (40) (fun gk dv i wr => ∃ (j d ns : Nat) (D : Nat → ByteArray) (st : Nat → Int) (sv : Value) (V : Nat → Ver), i = .int .i64 (j : Int) ∧ gk + j = 40 ∧ j ≤ n ∧ d ≤ j ∧ KS w (w1.heap.size) (w1.heap.size + 1) M d dv D st ns sv V wr)
  case atStart =>
    exact ⟨0, 0, 0, fun _ => ⟨#[]⟩, fun _ => 0, .slice none 0 0, V00, rfl, rfl, Nat.zero_le _, Nat.zero_le _, ks_start HW1.out HM.out⟩
  case round =>
    obtain ⟨j, d, ns, D, st, sv, V, rfl, hgk, hjn, hdj, hKS⟩ := hrel
    have HK := Lib.hid hKS
    have HDJ := Lib.hid hdj
    have HGK := Lib.hid hgk
    clear hKS hdj hgk
    by_cases hlt : j < n ∧ j < 40
    · obtain ⟨hl1, hl2⟩ := hlt
      obtain ⟨b, off, od, ca, rfl, hBd, hno, c0, c1, c2, c3⟩ := (HA.out.later HK.out.wn.bel) j hl1
      obtain ⟨la, hla⟩ : ∃ x, (A j).len = x := ⟨_, rfl⟩
      obtain ⟨fa, hfa⟩ : ∃ x, (A j).f = x := ⟨_, rfl⟩
      obtain ⟨cas, hcas⟩ : ∃ x, (A j).cas = x := ⟨_, rfl⟩
      obtain ⟨qn, hqn⟩ : ∃ x, (A j).n = x := ⟨_, rfl⟩
      obtain ⟨qt, hqt⟩ : ∃ x, (A j).now = x := ⟨_, rfl⟩
      rw [hla] at hBd hno c0
      rw [hfa] at hBd
      rw [hcas] at c1
      rw [hqn] at c2
      rw [hqt] at c3
      have HB := Lib.hid hBd
      have HNo := Lib.hid hno
      clear hla hfa hcas hqn hqt hBd hno
      have i0 : (0 : Int) ≤ (j : Int) := by omega
      have i1 : (j : Int) < (n : Int) := by omega
      have i2 : (j : Int) < 40 := by omega
      obtain ⟨kk, hkk⟩ : ∃ x, qn % 40 = x := ⟨_, rfl⟩
      have hk1 : (qn : Int) % 40 = (kk : Int) := by omega
      have hk2 : (kk : Int) < 40 := by omega
      have HKK := Lib.hid (show kk < 40 by omega)
      clear hkk
      have d40 : (d : Int) ≤ 40 := by have := HDJ.out; omega
      have m8 : (M : Int) ≤ 8 := by have := HM.out.2; omega
      have m1 : (1 : Int) ≤ (M : Int) := by have := HM.out.1; omega
      obtain ⟨o8, cap8, e8⟩ := DS.slice HK.out.ds.choose_spec
      subst e8
      obtain ⟨os, cs, e6, hcs, _⟩ := HK.out.vers
      subst e6
      have HCS := Lib.hid hcs
      clear hcs
      by_cases hb1 : la ≤ 100
      · have g1 : (la : Int) ≤ 100 := by omega
        have HLA := Lib.hid hb1
        clear hb1
        go_upto_region 13 with fail
        obtain ⟨b0, hb0⟩ : ∃ x, decide (1 ≤ kk ∧ kk ≤ d ∧ d < kk + M) = x := ⟨_, rfl⟩
        have HB0 := Lib.hid hb0
        clear hb0
        go_cut [13] from 53 to 68 (fun s13 wx => s13 = .bool b0 ∧ wx = wr.alloc (.cells #[.slice od la ca, .int .i64 cas, .int .u32 (qn : Int), .int .u64 (qt : Int)] 75 ))
        case first =>
          by_cases h1 : 1 ≤ kk
          · by_cases h2 : kk ≤ d
            · by_cases h3 : d < kk + M
              · have e1 : (1 : Int) ≤ (kk : Int) := by omega
                have e3 : (d : Int) - (M : Int) < (kk : Int) := by omega
                have hb0 : Hid (b0 = true) := Lib.hid (by rw [← HB0.out]; simp; omega)
                clear h1 h3
                go_wp2_with fail
                go_meet
                exact ⟨by rw [hb0.out], rfl⟩
              · have e1 : (1 : Int) ≤ (kk : Int) := by omega
                have e3 : decide ((d : Int) - (M : Int) < (kk : Int)) = false := by simp; omega
                have hb0 : Hid (b0 = false) := Lib.hid (by rw [← HB0.out]; simp; omega)
                clear h1 h3
                go_wp2_with fail
                go_meet
                exact ⟨by rw [hb0.out], rfl⟩
            · have e1 : (1 : Int) ≤ (kk : Int) := by omega
              have e3 : decide (kk ≤ d) = false := by simp; omega
              have hb0 : Hid (b0 = false) := Lib.hid (by rw [← HB0.out]; simp; omega)
              clear h1 h2
              go_wp2_with fail
              go_meet
              exact ⟨by rw [hb0.out], rfl⟩
          · have e1 : decide ((1 : Int) ≤ (kk : Int)) = false := by simp; omega
            have hb0 : Hid (b0 = false) := Lib.hid (by rw [← HB0.out]; simp; omega)
            clear h1
            go_wp2_with fail
            go_meet
            exact ⟨by rw [hb0.out], rfl⟩
        case rest =>
          obtain ⟨rfl, rfl⟩ := hcut
          have HKW : Hid (KS w w1.heap.size (w1.heap.size + 1) M d (.slice o8 d cap8) D st ns (.slice os ns cs) V ((wr.alloc (.cells #[.slice od la ca, .int .i64 cas, .int .u32 (qn : Int), .int .u64 (qt : Int)] 75)).alloc (.cells #[.slice none 0 0, .int .u32 0, .int .i64 0] 79))) := Lib.hid ((HK.out.later ((Below.refl _ _).alloc (Nat.le_refl _) _)).later ((Below.refl _ _).alloc (Nat.le_refl _) _))
          have HBW : Hid (Bytes ((wr.alloc (.cells #[.slice od la ca, .int .i64 cas, .int .u32 (qn : Int), .int .u64 (qt : Int)] 75)).alloc (.cells #[.slice none 0 0, .int .u32 0, .int .i64 0] 79)) od la fa) := Lib.hid ((HB.out.alloc _).alloc _)
          have HTW : Hid (Blk ((wr.alloc (.cells #[.slice od la ca, .int .i64 cas, .int .u32 (qn : Int), .int .u64 (qt : Int)] 75)).alloc (.cells #[.slice none 0 0, .int .u32 0, .int .i64 0] 79)) (wr.heap.size + 1) #[.slice none 0 0, .int .u32 0, .int .i64 0] 79) := Lib.hid (blk2' _ _ _ _ _)
          have HAW : Hid (Blk ((wr.alloc (.cells #[.slice od la ca, .int .i64 cas, .int .u32 (qn : Int), .int .u64 (qt : Int)] 75)).alloc (.cells #[.slice none 0 0, .int .u32 0, .int .i64 0] 79)) wr.heap.size #[.slice od la ca, .int .i64 cas, .int .u32 (qn : Int), .int .u64 (qt : Int)] 75) := Lib.hid (blk2 _ _ _ _ _)
          have HBT : Hid (w1.heap.size + 1 < wr.heap.size) := Lib.hid HK.out.sta.lt
          go_upto_block 2 with fail
          go_cut [8, 15] from 51 to 212 (KR1 w (w1.heap.size) (w1.heap.size + 1) (wr.heap.size + 1) M d j ns (.slice o8 d cap8) (.slice os ns cs) D st V)
          case first =>
            by_cases r0 : qt % 5 = 0
            · have hr : (qt : Int) % 5 = 0 := by omega
              clear r0
              by_cases k1 : 1 ≤ kk
              · by_cases k2 : kk ≤ d
                · by_cases k3 : d < kk + M
                  · have hb0 : b0 = true := by rw [← HB0.out]; simp; omega
                    subst hb0
                    obtain ⟨q, hq⟩ : ∃ q, kk = q + 1 := ⟨kk - 1, by omega⟩
                    have HQ := Lib.hid hq
                    have HKI := Lib.hid (And.intro k1 (And.intro k2 k3))
                    have q1 : (kk : Int) - 1 = (q : Int) := by omega
                    have q2 : (q : Int) % 64 = (q : Int) := by have := HKK.out; omega
                    have q3 : (1 : Int) ≤ (kk : Int) := by omega
                    have q4 : (d : Int) - (M : Int) < (kk : Int) := by omega
                    have q5 : max (kk : Int) 1 = (kk : Int) := by omega
                    clear k1 k3 hq
                    have s0 : ((wr.alloc (.cells #[.slice od la ca, .int .i64 cas, .int .u32 (qn : Int), .int .u64 (qt : Int)] 75)).alloc (.cells #[.slice none 0 0, .int .u32 0, .int .i64 0] 79)).cell? ⟨w1.heap.size, 0, none⟩ = some (.slice os ns cs) := Blk.cell HKW.out.blk 0
                    have s1 : ((wr.alloc (.cells #[.slice od la ca, .int .i64 cas, .int .u32 (qn : Int), .int .u64 (qt : Int)] 75)).alloc (.cells #[.slice none 0 0, .int .u32 0, .int .i64 0] 79)).cell? ⟨w1.heap.size, 1, none⟩ = some (.int .u32 (d : Int)) := Blk.cell HKW.out.blk 1
                    have s2 : ((wr.alloc (.cells #[.slice od la ca, .int .i64 cas, .int .u32 (qn : Int), .int .u64 (qt : Int)] 75)).alloc (.cells #[.slice none 0 0, .int .u32 0, .int .i64 0] 79)).cell? ⟨w1.heap.size, 2, none⟩ = some (.int .i64 (M : Int)) := Blk.cell HKW.out.blk 2
                    have a0 : ((wr.alloc (.cells #[.slice od la ca, .int .i64 cas, .int .u32 (qn : Int), .int .u64 (qt : Int)] 75)).alloc (.cells #[.slice none 0 0, .int .u32 0, .int .i64 0] 79)).cell? ⟨wr.heap.size, 0, none⟩ = some (.slice od la ca) := Blk.cell HAW.out 0
                    have a3 : ((wr.alloc (.cells #[.slice od la ca, .int .i64 cas, .int .u32 (qn : Int), .int .u64 (qt : Int)] 75)).alloc (.cells #[.slice none 0 0, .int .u32 0, .int .i64 0] 79)).cell? ⟨wr.heap.size, 3, none⟩ = some (.int .u64 (qt : Int)) := Blk.cell HAW.out 3
                    obtain ⟨i, hi, he⟩ := ks_in HKW.out.sec HKW.out.mn HKI.out.1 HKI.out.2.1 HKI.out.2.2
                    have hnk : (V i).n = kk := he.trans (seek_pos (by have := HKI.out.1; omega))
                    have hsx := (HKW.out.km.1 i hi).1
                    rw [show (V i).n - 1 = q by have := HQ.out; omega] at hsx
                    obtain ⟨sx, hsx2⟩ : ∃ x, (V i).st = x := ⟨_, rfl⟩
                    rw [hsx2] at hsx
                    by_cases h2 : sx = 2
                    · as_aux_lemma =>
                        obtain rfl : sx = 2 := h2
                      
                        have HN2 := Lib.hid (show (2 : Int) = 2 from rfl)
                        have HSX := Lib.hid hsx
                        have HSX2 := Lib.hid hsx2
                        have HI := Lib.hid hi
                        have HE := Lib.hid he
                        have HNK := Lib.hid hnk
                        have C : Hid (Calls Tryd.prog 47 #[.agg #[.slice os ns cs, .int .u32 (d : Int), .int .i64 (M : Int)], .int .u32 (kk : Int)] ((wr.alloc (.cells #[.slice od la ca, .int .i64 cas, .int .u32 (qn : Int), .int .u64 (qt : Int)] 75)).alloc (.cells #[.slice none 0 0, .int .u32 0, .int .i64 0] 79)) fun e w' => e = .returned (.tuple #[.agg #[.slice none 0 0, .int .u32 0, .int .i64 0], .iface 146 (.int .i64 21)]) ∧ Below ((wr.alloc (.cells #[.slice od la ca, .int .i64 cas, .int .u32 (qn : Int), .int .u64 (qt : Int)] 75)).alloc (.cells #[.slice none 0 0, .int .u32 0, .int .i64 0] 79)).heap.size ((wr.alloc (.cells #[.slice od la ca, .int .i64 cas, .int .u32 (qn : Int), .int .u64 (qt : Int)] 75)).alloc (.cells #[.slice none 0 0, .int .u32 0, .int .i64 0] 79)) w') := Lib.hid (delete_gone os ns cs d M V _ HKW.out.lens (by omega) HKW.out.verss kk i HKW.out.sec HI.out HE.out HSX2.out)
                        clear hsx hsx2 hi he hnk
                        have ne1 : ¬ (w1.heap.size = wr.heap.size) := by have := HBT.out; omega
                        have ne2 : ¬ (wr.heap.size = w1.heap.size) := by have := HBT.out; omega
                        have qlt : (q : Int) < 64 := by have := HQ.out; have := HKK.out; omega
                        have qlt0 : (0 : Int) ≤ (q : Int) := by omega
                        go_wp2_with fail
                        refine C.out.mono ?_
                        rintro e w2 ⟨rfl, hb2⟩
                        have HB2 := Lib.hid hb2
                        clear C
                        have hT2 := HTW.out.below hb2 HTW.out.lt
                        have hA2 := HAW.out.below hb2 HAW.out.lt
                        have hK2 := HKW.out.later hb2
                        have t0 : w2.cell? ⟨wr.heap.size + 1, 0, none⟩ = some (.slice none 0 0) := Blk.cell hT2 0
                        have tz0 : w2.frozen? ⟨wr.heap.size + 1, 0, none⟩ = false := Blk.free hT2 0
                        have t1 : w2.cell? ⟨wr.heap.size + 1, 1, none⟩ = some (.int .u32 0) := Blk.cell hT2 1
                        have tz1 : w2.frozen? ⟨wr.heap.size + 1, 1, none⟩ = false := Blk.free hT2 1
                        have t2 : w2.cell? ⟨wr.heap.size + 1, 2, none⟩ = some (.int .i64 0) := Blk.cell hT2 2
                        have tz2 : w2.frozen? ⟨wr.heap.size + 1, 2, none⟩ = false := Blk.free hT2 2
                        have b0 : w2.cell? ⟨wr.heap.size, 0, none⟩ = some (.slice od la ca) := Blk.cell hA2 0
                        have b2 : w2.cell? ⟨wr.heap.size, 2, none⟩ = some (.int .u32 (qn : Int)) := Blk.cell hA2 2
                        have b3 : w2.cell? ⟨wr.heap.size, 3, none⟩ = some (.int .u64 (qt : Int)) := Blk.cell hA2 3
                        have y0 : w2.cell? ⟨w1.heap.size + 1, q, none⟩ = some (.int .i64 2) := by rw [hK2.sta.cell (by have := HQ.out; have := HKK.out; omega), HSX.out]
                        have y1 : w2.frozen? ⟨w1.heap.size + 1, q, none⟩ = false := hK2.sta.free q
                        clear hT2 hA2 hK2 hb2 s0 s1 s2 a0 a3
                        go_wp2_with fail
                        have q6 : IntKind.i64.wrap ((kk : Int) - 1) = (q : Int) := by rw [IntWalk.i64_in _ (by omega)]; omega
                        have q7 : ((q : Int)).tmod 64 = (q : Int) := by rw [Int.tmod_eq_emod_of_nonneg (by omega)]; omega
                        have q9 : IntKind.i64.wrap (q : Int) = (q : Int) := IntWalk.i64_in _ (by omega)
                        go_region_held3 (fun w' => w'.cell? ⟨w1.heap.size + 1, q, none⟩ = some (.int .i64 2)) (go_keep) (fail)
                        clear q6 q7 q9
                        go_wp2_with fail
                        go_meet
                        exact kr1_err HKW.out HTW.out (by have := HBT.out; omega) (by have := HBT.out; omega) (fun x hx => by have := HK.out.dvb x hx; omega) (fun x hx => by have := HK.out.svb x hx; omega) HB2.out ⟨rfl, rfl, rfl, Nat.le_refl _, fun _ _ => rfl⟩
                    · as_aux_lemma =>
                        have x1 : (sx == 2) = false := by rw [beq_eq_false_iff_ne]; exact h2
                        have x2 : (sx != 2) = true := by rw [bne_iff_ne]; exact h2
                        have HN2 := Lib.hid h2
                        have HSX := Lib.hid hsx
                        have HSX2 := Lib.hid hsx2
                        have HI := Lib.hid hi
                        have HE := Lib.hid he
                        have HNK := Lib.hid hnk
                        have C : Hid (Calls Tryd.prog 47 #[.agg #[.slice os ns cs, .int .u32 (d : Int), .int .i64 (M : Int)], .int .u32 (kk : Int)] ((wr.alloc (.cells #[.slice od la ca, .int .i64 cas, .int .u32 (qn : Int), .int .u64 (qt : Int)] 75)).alloc (.cells #[.slice none 0 0, .int .u32 0, .int .i64 0] 79)) fun e w' => ∃ v, e = .returned (.tuple #[.agg #[v, .int .u32 (d : Int), .int .i64 (M : Int)], .nilIface]) ∧ GV w' ((wr.alloc (.cells #[.slice od la ca, .int .i64 cas, .int .u32 (qn : Int), .int .u64 (qt : Int)] 75)).alloc (.cells #[.slice none 0 0, .int .u32 0, .int .i64 0] 79)).heap.size v ns (setV V i 1) ∧ Below ((wr.alloc (.cells #[.slice od la ca, .int .i64 cas, .int .u32 (qn : Int), .int .u64 (qt : Int)] 75)).alloc (.cells #[.slice none 0 0, .int .u32 0, .int .i64 0] 79)).heap.size ((wr.alloc (.cells #[.slice od la ca, .int .i64 cas, .int .u32 (qn : Int), .int .u64 (qt : Int)] 75)).alloc (.cells #[.slice none 0 0, .int .u32 0, .int .i64 0] 79)) w') := Lib.hid (delete_ok os ns cs d M V _ HKW.out.lens (by omega) HKW.out.verss kk i HKW.out.sec HI.out HE.out (by rw [HSX2.out]; exact HN2.out))
                        clear hsx hsx2 hi he hnk h2
                        have ne1 : ¬ (w1.heap.size = wr.heap.size) := by have := HBT.out; omega
                        have ne2 : ¬ (wr.heap.size = w1.heap.size) := by have := HBT.out; omega
                        have qlt : (q : Int) < 64 := by have := HQ.out; have := HKK.out; omega
                        have qlt0 : (0 : Int) ≤ (q : Int) := by omega
                        go_wp2_with fail
                        refine C.out.mono ?_
                        rintro e w2 ⟨vv, rfl, hG2, hb2⟩
                        obtain ⟨o2, c2v, rfl, _, _⟩ := hG2.slice
                        have HG2 := Lib.hid hG2
                        have HB2 := Lib.hid hb2
                        clear hG2 C
                        have hT2 := HTW.out.below hb2 HTW.out.lt
                        have hA2 := HAW.out.below hb2 HAW.out.lt
                        have hK2 := HKW.out.later hb2
                        have t0 : w2.cell? ⟨wr.heap.size + 1, 0, none⟩ = some (.slice none 0 0) := Blk.cell hT2 0
                        have tz0 : w2.frozen? ⟨wr.heap.size + 1, 0, none⟩ = false := Blk.free hT2 0
                        have t1 : w2.cell? ⟨wr.heap.size + 1, 1, none⟩ = some (.int .u32 0) := Blk.cell hT2 1
                        have tz1 : w2.frozen? ⟨wr.heap.size + 1, 1, none⟩ = false := Blk.free hT2 1
                        have t2 : w2.cell? ⟨wr.heap.size + 1, 2, none⟩ = some (.int .i64 0) := Blk.cell hT2 2
                        have tz2 : w2.frozen? ⟨wr.heap.size + 1, 2, none⟩ = false := Blk.free hT2 2
                        have b0 : w2.cell? ⟨wr.heap.size, 0, none⟩ = some (.slice od la ca) := Blk.cell hA2 0
                        have b2 : w2.cell? ⟨wr.heap.size, 2, none⟩ = some (.int .u32 (qn : Int)) := Blk.cell hA2 2
                        have b3 : w2.cell? ⟨wr.heap.size, 3, none⟩ = some (.int .u64 (qt : Int)) := Blk.cell hA2 3
                        have y0 : w2.cell? ⟨w1.heap.size + 1, q, none⟩ = some (.int .i64 sx) := by rw [hK2.sta.cell (by have := HQ.out; have := HKK.out; omega), HSX.out]
                        have y1 : w2.frozen? ⟨w1.heap.size + 1, q, none⟩ = false := hK2.sta.free q
                        clear hT2 hA2 hK2 hb2 s0 s1 s2 a0 a3
                        go_wp2_with fail
                        have q6 : IntKind.i64.wrap ((kk : Int) - 1) = (q : Int) := by rw [IntWalk.i64_in _ (by omega)]; omega
                        have q7 : ((q : Int)).tmod 64 = (q : Int) := by rw [Int.tmod_eq_emod_of_nonneg (by omega)]; omega
                        have q9 : IntKind.i64.wrap (q : Int) = (q : Int) := IntWalk.i64_in _ (by omega)
                        go_region_held3 (fun w' => w'.cell? ⟨w1.heap.size + 1, q, none⟩ = some (.int .i64 sx)) (go_keep) (fail)
                        clear q6 q7 q9
                        go_wp2_with fail
                        go_meet
                        exact kr1_set HKW.out HTW.out (by have := HBT.out; omega) (by have := HBT.out; omega) (fun x hx => by have := HK.out.dvb x hx; omega) HG2.out HB2.out rfl (set_sec HKW.out.sec (by decide) (by decide)) (KM.set HKW.out.km HKW.out.sec HI.out (by have := HQ.out; have := HNK.out; omega) (by rw [HSX2.out]; exact HN2.out)) (by have := HQ.out; have := HKK.out; omega) HDJ.out ⟨rfl, rfl, rfl, Nat.le_refl _, fun _ _ => rfl⟩
                  · have hb0 : b0 = false := by rw [← HB0.out]; simp; omega
                    subst hb0
                    have HKO := Lib.hid (And.intro k1 (Or.inr (show kk + M ≤ d by omega) : d < kk ∨ kk + M ≤ d))
                    have q3 : (1 : Int) ≤ (kk : Int) := by omega
                    have q4 : decide ((d : Int) - (M : Int) < (kk : Int)) = false := by simp; omega
                    have q5 : max (kk : Int) 1 = (kk : Int) := by omega
                    clear k1 k3
                    as_aux_lemma =>
                      have s0 : ((wr.alloc (.cells #[.slice od la ca, .int .i64 cas, .int .u32 (qn : Int), .int .u64 (qt : Int)] 75)).alloc (.cells #[.slice none 0 0, .int .u32 0, .int .i64 0] 79)).cell? ⟨w1.heap.size, 0, none⟩ = some (.slice os ns cs) := Blk.cell HKW.out.blk 0
                      have s1 : ((wr.alloc (.cells #[.slice od la ca, .int .i64 cas, .int .u32 (qn : Int), .int .u64 (qt : Int)] 75)).alloc (.cells #[.slice none 0 0, .int .u32 0, .int .i64 0] 79)).cell? ⟨w1.heap.size, 1, none⟩ = some (.int .u32 (d : Int)) := Blk.cell HKW.out.blk 1
                      have s2 : ((wr.alloc (.cells #[.slice od la ca, .int .i64 cas, .int .u32 (qn : Int), .int .u64 (qt : Int)] 75)).alloc (.cells #[.slice none 0 0, .int .u32 0, .int .i64 0] 79)).cell? ⟨w1.heap.size, 2, none⟩ = some (.int .i64 (M : Int)) := Blk.cell HKW.out.blk 2
                      have a0 : ((wr.alloc (.cells #[.slice od la ca, .int .i64 cas, .int .u32 (qn : Int), .int .u64 (qt : Int)] 75)).alloc (.cells #[.slice none 0 0, .int .u32 0, .int .i64 0] 79)).cell? ⟨wr.heap.size, 0, none⟩ = some (.slice od la ca) := Blk.cell HAW.out 0
                      have a3 : ((wr.alloc (.cells #[.slice od la ca, .int .i64 cas, .int .u32 (qn : Int), .int .u64 (qt : Int)] 75)).alloc (.cells #[.slice none 0 0, .int .u32 0, .int .i64 0] 79)).cell? ⟨wr.heap.size, 3, none⟩ = some (.int .u64 (qt : Int)) := Blk.cell HAW.out 3
                      have HOUT := Lib.hid (ks_out HKW.out.sec HKW.out.mn HKO.out.1 HKO.out.2)
                      have C : Hid (Calls Tryd.prog 47 #[.agg #[.slice os ns cs, .int .u32 (d : Int), .int .i64 (M : Int)], .int .u32 (kk : Int)] ((wr.alloc (.cells #[.slice od la ca, .int .i64 cas, .int .u32 (qn : Int), .int .u64 (qt : Int)] 75)).alloc (.cells #[.slice none 0 0, .int .u32 0, .int .i64 0] 79)) fun e w' => e = .returned (.tuple #[.agg #[.slice none 0 0, .int .u32 0, .int .i64 0], .iface 146 (.int .i64 5)]) ∧ Below ((wr.alloc (.cells #[.slice od la ca, .int .i64 cas, .int .u32 (qn : Int), .int .u64 (qt : Int)] 75)).alloc (.cells #[.slice none 0 0, .int .u32 0, .int .i64 0] 79)).heap.size ((wr.alloc (.cells #[.slice od la ca, .int .i64 cas, .int .u32 (qn : Int), .int .u64 (qt : Int)] 75)).alloc (.cells #[.slice none 0 0, .int .u32 0, .int .i64 0] 79)) w') := Lib.hid (delete_miss os ns cs d M V _ HKW.out.lens (by omega) HKW.out.verss kk HKW.out.sec HOUT.out)
                      have ne1 : ¬ (w1.heap.size = wr.heap.size) := by have := HBT.out; omega
                      have ne2 : ¬ (wr.heap.size = w1.heap.size) := by have := HBT.out; omega
                      go_wp2_with fail
                      refine C.out.mono ?_
                      rintro e w2 ⟨rfl, hb2⟩
                      have HB2 := Lib.hid hb2
                      clear C
                      have hT2 := HTW.out.below hb2 HTW.out.lt
                      have hA2 := HAW.out.below hb2 HAW.out.lt
                      have hK2 := HKW.out.later hb2
                      have t0 : w2.cell? ⟨wr.heap.size + 1, 0, none⟩ = some (.slice none 0 0) := Blk.cell hT2 0
                      have tz0 : w2.frozen? ⟨wr.heap.size + 1, 0, none⟩ = false := Blk.free hT2 0
                      have t1 : w2.cell? ⟨wr.heap.size + 1, 1, none⟩ = some (.int .u32 0) := Blk.cell hT2 1
                      have tz1 : w2.frozen? ⟨wr.heap.size + 1, 1, none⟩ = false := Blk.free hT2 1
                      have t2 : w2.cell? ⟨wr.heap.size + 1, 2, none⟩ = some (.int .i64 0) := Blk.cell hT2 2
                      have tz2 : w2.frozen? ⟨wr.heap.size + 1, 2, none⟩ = false := Blk.free hT2 2
                      have b0 : w2.cell? ⟨wr.heap.size, 0, none⟩ = some (.slice od la ca) := Blk.cell hA2 0
                      have b2 : w2.cell? ⟨wr.heap.size, 2, none⟩ = some (.int .u32 (qn : Int)) := Blk.cell hA2 2
                      have b3 : w2.cell? ⟨wr.heap.size, 3, none⟩ = some (.int .u64 (qt : Int)) := Blk.cell hA2 3
                      clear hT2 hA2 hK2 hb2 s0 s1 s2 a0 a3
                      go_wp2_with fail
                      go_meet
                      exact kr1_err HKW.out HTW.out (by have := HBT.out; omega) (by have := HBT.out; omega) (fun x hx => by have := HK.out.dvb x hx; omega) (fun x hx => by have := HK.out.svb x hx; omega) HB2.out ⟨rfl, rfl, rfl, Nat.le_refl _, fun _ _ => rfl⟩
                · have hb0 : b0 = false := by rw [← HB0.out]; simp; omega
                  subst hb0
                  have HKO := Lib.hid (And.intro k1 (Or.inl (show d < kk by omega) : d < kk ∨ kk + M ≤ d))
                  have q3 : (1 : Int) ≤ (kk : Int) := by omega
                  have q4 : decide (kk ≤ d) = false := by simp; omega
                  have q5 : max (kk : Int) 1 = (kk : Int) := by omega
                  clear k1 k2
                  as_aux_lemma =>
                    have s0 : ((wr.alloc (.cells #[.slice od la ca, .int .i64 cas, .int .u32 (qn : Int), .int .u64 (qt : Int)] 75)).alloc (.cells #[.slice none 0 0, .int .u32 0, .int .i64 0] 79)).cell? ⟨w1.heap.size, 0, none⟩ = some (.slice os ns cs) := Blk.cell HKW.out.blk 0
                    have s1 : ((wr.alloc (.cells #[.slice od la ca, .int .i64 cas, .int .u32 (qn : Int), .int .u64 (qt : Int)] 75)).alloc (.cells #[.slice none 0 0, .int .u32 0, .int .i64 0] 79)).cell? ⟨w1.heap.size, 1, none⟩ = some (.int .u32 (d : Int)) := Blk.cell HKW.out.blk 1
                    have s2 : ((wr.alloc (.cells #[.slice od la ca, .int .i64 cas, .int .u32 (qn : Int), .int .u64 (qt : Int)] 75)).alloc (.cells #[.slice none 0 0, .int .u32 0, .int .i64 0] 79)).cell? ⟨w1.heap.size, 2, none⟩ = some (.int .i64 (M : Int)) := Blk.cell HKW.out.blk 2
                    have a0 : ((wr.alloc (.cells #[.slice od la ca, .int .i64 cas, .int .u32 (qn : Int), .int .u64 (qt : Int)] 75)).alloc (.cells #[.slice none 0 0, .int .u32 0, .int .i64 0] 79)).cell? ⟨wr.heap.size, 0, none⟩ = some (.slice od la ca) := Blk.cell HAW.out 0
                    have a3 : ((wr.alloc (.cells #[.slice od la ca, .int .i64 cas, .int .u32 (qn : Int), .int .u64 (qt : Int)] 75)).alloc (.cells #[.slice none 0 0, .int .u32 0, .int .i64 0] 79)).cell? ⟨wr.heap.size, 3, none⟩ = some (.int .u64 (qt : Int)) := Blk.cell HAW.out 3
                    have HOUT := Lib.hid (ks_out HKW.out.sec HKW.out.mn HKO.out.1 HKO.out.2)
                    have C : Hid (Calls Tryd.prog 47 #[.agg #[.slice os ns cs, .int .u32 (d : Int), .int .i64 (M : Int)], .int .u32 (kk : Int)] ((wr.alloc (.cells #[.slice od la ca, .int .i64 cas, .int .u32 (qn : Int), .int .u64 (qt : Int)] 75)).alloc (.cells #[.slice none 0 0, .int .u32 0, .int .i64 0] 79)) fun e w' => e = .returned (.tuple #[.agg #[.slice none 0 0, .int .u32 0, .int .i64 0], .iface 146 (.int .i64 5)]) ∧ Below ((wr.alloc (.cells #[.slice od la ca, .int .i64 cas, .int .u32 (qn : Int), .int .u64 (qt : Int)] 75)).alloc (.cells #[.slice none 0 0, .int .u32 0, .int .i64 0] 79)).heap.size ((wr.alloc (.cells #[.slice od la ca, .int .i64 cas, .int .u32 (qn : Int), .int .u64 (qt : Int)] 75)).alloc (.cells #[.slice none 0 0, .int .u32 0, .int .i64 0] 79)) w') := Lib.hid (delete_miss os ns cs d M V _ HKW.out.lens (by omega) HKW.out.verss kk HKW.out.sec HOUT.out)
                    have ne1 : ¬ (w1.heap.size = wr.heap.size) := by have := HBT.out; omega
                    have ne2 : ¬ (wr.heap.size = w1.heap.size) := by have := HBT.out; omega
                    go_wp2_with fail
                    refine C.out.mono ?_
                    rintro e w2 ⟨rfl, hb2⟩
                    have HB2 := Lib.hid hb2
                    clear C
                    have hT2 := HTW.out.below hb2 HTW.out.lt
                    have hA2 := HAW.out.below hb2 HAW.out.lt
                    have hK2 := HKW.out.later hb2
                    have t0 : w2.cell? ⟨wr.heap.size + 1, 0, none⟩ = some (.slice none 0 0) := Blk.cell hT2 0
                    have tz0 : w2.frozen? ⟨wr.heap.size + 1, 0, none⟩ = false := Blk.free hT2 0
                    have t1 : w2.cell? ⟨wr.heap.size + 1, 1, none⟩ = some (.int .u32 0) := Blk.cell hT2 1
                    have tz1 : w2.frozen? ⟨wr.heap.size + 1, 1, none⟩ = false := Blk.free hT2 1
                    have t2 : w2.cell? ⟨wr.heap.size + 1, 2, none⟩ = some (.int .i64 0) := Blk.cell hT2 2
                    have tz2 : w2.frozen? ⟨wr.heap.size + 1, 2, none⟩ = false := Blk.free hT2 2
                    have b0 : w2.cell? ⟨wr.heap.size, 0, none⟩ = some (.slice od la ca) := Blk.cell hA2 0
                    have b2 : w2.cell? ⟨wr.heap.size, 2, none⟩ = some (.int .u32 (qn : Int)) := Blk.cell hA2 2
                    have b3 : w2.cell? ⟨wr.heap.size, 3, none⟩ = some (.int .u64 (qt : Int)) := Blk.cell hA2 3
                    clear hT2 hA2 hK2 hb2 s0 s1 s2 a0 a3
                    go_wp2_with fail
                    go_meet
                    exact kr1_err HKW.out HTW.out (by have := HBT.out; omega) (by have := HBT.out; omega) (fun x hx => by have := HK.out.dvb x hx; omega) (fun x hx => by have := HK.out.svb x hx; omega) HB2.out ⟨rfl, rfl, rfl, Nat.le_refl _, fun _ _ => rfl⟩
              · have hb0 : b0 = false := by rw [← HB0.out]; simp; omega
                subst hb0
                have k0 : (kk : Int) = 0 := by omega
                by_cases k2 : 1 ≤ d
                · by_cases k3 : d < 1 + M
                  · have HQ := Lib.hid (show (1 : Nat) = 0 + 1 from rfl)
                    have HKI := Lib.hid (And.intro (Nat.le_refl 1) (And.intro k2 k3))
                    have q4 : (d : Int) - (M : Int) < 1 := by omega
                    have q8 : (1 : Int) ≤ (d : Int) := by omega
                    clear k1 k3
                    have s0 : ((wr.alloc (.cells #[.slice od la ca, .int .i64 cas, .int .u32 (qn : Int), .int .u64 (qt : Int)] 75)).alloc (.cells #[.slice none 0 0, .int .u32 0, .int .i64 0] 79)).cell? ⟨w1.heap.size, 0, none⟩ = some (.slice os ns cs) := Blk.cell HKW.out.blk 0
                    have s1 : ((wr.alloc (.cells #[.slice od la ca, .int .i64 cas, .int .u32 (qn : Int), .int .u64 (qt : Int)] 75)).alloc (.cells #[.slice none 0 0, .int .u32 0, .int .i64 0] 79)).cell? ⟨w1.heap.size, 1, none⟩ = some (.int .u32 (d : Int)) := Blk.cell HKW.out.blk 1
                    have s2 : ((wr.alloc (.cells #[.slice od la ca, .int .i64 cas, .int .u32 (qn : Int), .int .u64 (qt : Int)] 75)).alloc (.cells #[.slice none 0 0, .int .u32 0, .int .i64 0] 79)).cell? ⟨w1.heap.size, 2, none⟩ = some (.int .i64 (M : Int)) := Blk.cell HKW.out.blk 2
                    have a0 : ((wr.alloc (.cells #[.slice od la ca, .int .i64 cas, .int .u32 (qn : Int), .int .u64 (qt : Int)] 75)).alloc (.cells #[.slice none 0 0, .int .u32 0, .int .i64 0] 79)).cell? ⟨wr.heap.size, 0, none⟩ = some (.slice od la ca) := Blk.cell HAW.out 0
                    have a3 : ((wr.alloc (.cells #[.slice od la ca, .int .i64 cas, .int .u32 (qn : Int), .int .u64 (qt : Int)] 75)).alloc (.cells #[.slice none 0 0, .int .u32 0, .int .i64 0] 79)).cell? ⟨wr.heap.size, 3, none⟩ = some (.int .u64 (qt : Int)) := Blk.cell HAW.out 3
                    obtain ⟨i, hi, he⟩ := ks_in HKW.out.sec HKW.out.mn HKI.out.1 HKI.out.2.1 HKI.out.2.2
                    have hnk : (V i).n = 1 := he.trans (seek_pos (by have := HKI.out.1; omega))
                    have hsx := (HKW.out.km.1 i hi).1
                    rw [show (V i).n - 1 = 0 by have := HQ.out; omega] at hsx
                    obtain ⟨sx, hsx2⟩ : ∃ x, (V i).st = x := ⟨_, rfl⟩
                    rw [hsx2] at hsx
                    by_cases h2 : sx = 2
                    · as_aux_lemma =>
                        obtain rfl : sx = 2 := h2
                      
                        have HN2 := Lib.hid (show (2 : Int) = 2 from rfl)
                        have HSX := Lib.hid hsx
                        have HSX2 := Lib.hid hsx2
                        have HI := Lib.hid hi
                        have HE := Lib.hid he
                        have HNK := Lib.hid hnk
                        have C : Hid (Calls Tryd.prog 47 #[.agg #[.slice os ns cs, .int .u32 (d : Int), .int .i64 (M : Int)], .int .u32 1] ((wr.alloc (.cells #[.slice od la ca, .int .i64 cas, .int .u32 (qn : Int), .int .u64 (qt : Int)] 75)).alloc (.cells #[.slice none 0 0, .int .u32 0, .int .i64 0] 79)) fun e w' => e = .returned (.tuple #[.agg #[.slice none 0 0, .int .u32 0, .int .i64 0], .iface 146 (.int .i64 21)]) ∧ Below ((wr.alloc (.cells #[.slice od la ca, .int .i64 cas, .int .u32 (qn : Int), .int .u64 (qt : Int)] 75)).alloc (.cells #[.slice none 0 0, .int .u32 0, .int .i64 0] 79)).heap.size ((wr.alloc (.cells #[.slice od la ca, .int .i64 cas, .int .u32 (qn : Int), .int .u64 (qt : Int)] 75)).alloc (.cells #[.slice none 0 0, .int .u32 0, .int .i64 0] 79)) w') := Lib.hid (delete_gone os ns cs d M V _ HKW.out.lens (by omega) HKW.out.verss 1 i HKW.out.sec HI.out HE.out HSX2.out)
                        clear hsx hsx2 hi he hnk
                        have ne1 : ¬ (w1.heap.size = wr.heap.size) := by have := HBT.out; omega
                        have ne2 : ¬ (wr.heap.size = w1.heap.size) := by have := HBT.out; omega
                        have qlt : (0 : Int) < 64 := by have := HQ.out; have := HKK.out; omega
                        have qlt0 : (0 : Int) ≤ (0 : Int) := by omega
                        go_wp2_with fail
                        refine C.out.mono ?_
                        rintro e w2 ⟨rfl, hb2⟩
                        have HB2 := Lib.hid hb2
                        clear C
                        have hT2 := HTW.out.below hb2 HTW.out.lt
                        have hA2 := HAW.out.below hb2 HAW.out.lt
                        have hK2 := HKW.out.later hb2
                        have t0 : w2.cell? ⟨wr.heap.size + 1, 0, none⟩ = some (.slice none 0 0) := Blk.cell hT2 0
                        have tz0 : w2.frozen? ⟨wr.heap.size + 1, 0, none⟩ = false := Blk.free hT2 0
                        have t1 : w2.cell? ⟨wr.heap.size + 1, 1, none⟩ = some (.int .u32 0) := Blk.cell hT2 1
                        have tz1 : w2.frozen? ⟨wr.heap.size + 1, 1, none⟩ = false := Blk.free hT2 1
                        have t2 : w2.cell? ⟨wr.heap.size + 1, 2, none⟩ = some (.int .i64 0) := Blk.cell hT2 2
                        have tz2 : w2.frozen? ⟨wr.heap.size + 1, 2, none⟩ = false := Blk.free hT2 2
                        have b0 : w2.cell? ⟨wr.heap.size, 0, none⟩ = some (.slice od la ca) := Blk.cell hA2 0
                        have b2 : w2.cell? ⟨wr.heap.size, 2, none⟩ = some (.int .u32 (qn : Int)) := Blk.cell hA2 2
                        have b3 : w2.cell? ⟨wr.heap.size, 3, none⟩ = some (.int .u64 (qt : Int)) := Blk.cell hA2 3
                        have y0 : w2.cell? ⟨w1.heap.size + 1, 0, none⟩ = some (.int .i64 2) := by rw [hK2.sta.cell (by have := HQ.out; have := HKK.out; omega), HSX.out]
                        have y1 : w2.frozen? ⟨w1.heap.size + 1, 0, none⟩ = false := hK2.sta.free 0
                        clear hT2 hA2 hK2 hb2 s0 s1 s2 a0 a3
                        go_wp2_with fail
                        have q6 : IntKind.i64.wrap 0 = 0 := by decide
                        have q7 : (0 : Int).tmod 64 = 0 := by decide
                        have q9 : (0 : Int) < 64 := by decide
                        go_region_held3 (fun w' => w'.cell? ⟨w1.heap.size + 1, 0, none⟩ = some (.int .i64 2)) (go_keep) (fail)
                        clear q6 q7 q9
                        go_wp2_with fail
                        go_meet
                        exact kr1_err HKW.out HTW.out (by have := HBT.out; omega) (by have := HBT.out; omega) (fun x hx => by have := HK.out.dvb x hx; omega) (fun x hx => by have := HK.out.svb x hx; omega) HB2.out ⟨rfl, rfl, rfl, Nat.le_refl _, fun _ _ => rfl⟩
                    · as_aux_lemma =>
                        have x1 : (sx == 2) = false := by rw [beq_eq_false_iff_ne]; exact h2
                        have x2 : (sx != 2) = true := by rw [bne_iff_ne]; exact h2
                        have HN2 := Lib.hid h2
                        have HSX := Lib.hid hsx
                        have HSX2 := Lib.hid hsx2
                        have HI := Lib.hid hi
                        have HE := Lib.hid he
                        have HNK := Lib.hid hnk
                        have C : Hid (Calls Tryd.prog 47 #[.agg #[.slice os ns cs, .int .u32 (d : Int), .int .i64 (M : Int)], .int .u32 1] ((wr.alloc (.cells #[.slice od la ca, .int .i64 cas, .int .u32 (qn : Int), .int .u64 (qt : Int)] 75)).alloc (.cells #[.slice none 0 0, .int .u32 0, .int .i64 0] 79)) fun e w' => ∃ v, e = .returned (.tuple #[.agg #[v, .int .u32 (d : Int), .int .i64 (M : Int)], .nilIface]) ∧ GV w' ((wr.alloc (.cells #[.slice od la ca, .int .i64 cas, .int .u32 (qn : Int), .int .u64 (qt : Int)] 75)).alloc (.cells #[.slice none 0 0, .int .u32 0, .int .i64 0] 79)).heap.size v ns (setV V i 1) ∧ Below ((wr.alloc (.cells #[.slice od la ca, .int .i64 cas, .int .u32 (qn : Int), .int .u64 (qt : Int)] 75)).alloc (.cells #[.slice none 0 0, .int .u32 0, .int .i64 0] 79)).heap.size ((wr.alloc (.cells #[.slice od la ca, .int .i64 cas, .int .u32 (qn : Int), .int .u64 (qt : Int)] 75)).alloc (.cells #[.slice none 0 0, .int .u32 0, .int .i64 0] 79)) w') := Lib.hid (delete_ok os ns cs d M V _ HKW.out.lens (by omega) HKW.out.verss 1 i HKW.out.sec HI.out HE.out (by rw [HSX2.out]; exact HN2.out))
                        clear hsx hsx2 hi he hnk h2
                        have ne1 : ¬ (w1.heap.size = wr.heap.size) := by have := HBT.out; omega
                        have ne2 : ¬ (wr.heap.size = w1.heap.size) := by have := HBT.out; omega
                        have qlt : (0 : Int) < 64 := by have := HQ.out; have := HKK.out; omega
                        have qlt0 : (0 : Int) ≤ (0 : Int) := by omega
                        go_wp2_with fail
                        refine C.out.mono ?_
                        rintro e w2 ⟨vv, rfl, hG2, hb2⟩
                        obtain ⟨o2, c2v, rfl, _, _⟩ := hG2.slice
                        have HG2 := Lib.hid hG2
                        have HB2 := Lib.hid hb2
                        clear hG2 C
                        have hT2 := HTW.out.below hb2 HTW.out.lt
                        have hA2 := HAW.out.below hb2 HAW.out.lt
                        have hK2 := HKW.out.later hb2
                        have t0 : w2.cell? ⟨wr.heap.size + 1, 0, none⟩ = some (.slice none 0 0) := Blk.cell hT2 0
                        have tz0 : w2.frozen? ⟨wr.heap.size + 1, 0, none⟩ = false := Blk.free hT2 0
                        have t1 : w2.cell? ⟨wr.heap.size + 1, 1, none⟩ = some (.int .u32 0) := Blk.cell hT2 1
                        have tz1 : w2.frozen? ⟨wr.heap.size + 1, 1, none⟩ = false := Blk.free hT2 1
                        have t2 : w2.cell? ⟨wr.heap.size + 1, 2, none⟩ = some (.int .i64 0) := Blk.cell hT2 2
                        have tz2 : w2.frozen? ⟨wr.heap.size + 1, 2, none⟩ = false := Blk.free hT2 2
                        have b0 : w2.cell? ⟨wr.heap.size, 0, none⟩ = some (.slice od la ca) := Blk.cell hA2 0
                        have b2 : w2.cell? ⟨wr.heap.size, 2, none⟩ = some (.int .u32 (qn : Int)) := Blk.cell hA2 2
                        have b3 : w2.cell? ⟨wr.heap.size, 3, none⟩ = some (.int .u64 (qt : Int)) := Blk.cell hA2 3
                        have y0 : w2.cell? ⟨w1.heap.size + 1, 0, none⟩ = some (.int .i64 sx) := by rw [hK2.sta.cell (by have := HQ.out; have := HKK.out; omega), HSX.out]
                        have y1 : w2.frozen? ⟨w1.heap.size + 1, 0, none⟩ = false := hK2.sta.free 0
                        clear hT2 hA2 hK2 hb2 s0 s1 s2 a0 a3
                        go_wp2_with fail
                        have q6 : IntKind.i64.wrap 0 = 0 := by decide
                        have q7 : (0 : Int).tmod 64 = 0 := by decide
                        have q9 : (0 : Int) < 64 := by decide
                        go_region_held3 (fun w' => w'.cell? ⟨w1.heap.size + 1, 0, none⟩ = some (.int .i64 sx)) (go_keep) (fail)
                        clear q6 q7 q9
                        go_wp2_with fail
                        go_meet
                        exact kr1_set HKW.out HTW.out (by have := HBT.out; omega) (by have := HBT.out; omega) (fun x hx => by have := HK.out.dvb x hx; omega) HG2.out HB2.out rfl (set_sec HKW.out.sec (by decide) (by decide)) (KM.set HKW.out.km HKW.out.sec HI.out (by have := HQ.out; have := HNK.out; omega) (by rw [HSX2.out]; exact HN2.out)) (by have := HQ.out; have := HKK.out; omega) HDJ.out ⟨rfl, rfl, rfl, Nat.le_refl _, fun _ _ => rfl⟩
                  · have HKO := Lib.hid (And.intro (Nat.le_refl 1) (Or.inr (show 1 + M ≤ d by omega) : d < 1 ∨ 1 + M ≤ d))
                    have q4 : decide ((d : Int) - (M : Int) < 1) = false := by simp; omega
                    have q8 : (1 : Int) ≤ (d : Int) := by omega
                    clear k1 k3
                    as_aux_lemma =>
                      have s0 : ((wr.alloc (.cells #[.slice od la ca, .int .i64 cas, .int .u32 (qn : Int), .int .u64 (qt : Int)] 75)).alloc (.cells #[.slice none 0 0, .int .u32 0, .int .i64 0] 79)).cell? ⟨w1.heap.size, 0, none⟩ = some (.slice os ns cs) := Blk.cell HKW.out.blk 0
                      have s1 : ((wr.alloc (.cells #[.slice od la ca, .int .i64 cas, .int .u32 (qn : Int), .int .u64 (qt : Int)] 75)).alloc (.cells #[.slice none 0 0, .int .u32 0, .int .i64 0] 79)).cell? ⟨w1.heap.size, 1, none⟩ = some (.int .u32 (d : Int)) := Blk.cell HKW.out.blk 1
                      have s2 : ((wr.alloc (.cells #[.slice od la ca, .int .i64 cas, .int .u32 (qn : Int), .int .u64 (qt : Int)] 75)).alloc (.cells #[.slice none 0 0, .int .u32 0, .int .i64 0] 79)).cell? ⟨w1.heap.size, 2, none⟩ = some (.int .i64 (M : Int)) := Blk.cell HKW.out.blk 2
                      have a0 : ((wr.alloc (.cells #[.slice od la ca, .int .i64 cas, .int .u32 (qn : Int), .int .u64 (qt : Int)] 75)).alloc (.cells #[.slice none 0 0, .int .u32 0, .int .i64 0] 79)).cell? ⟨wr.heap.size, 0, none⟩ = some (.slice od la ca) := Blk.cell HAW.out 0
                      have a3 : ((wr.alloc (.cells #[.slice od la ca, .int .i64 cas, .int .u32 (qn : Int), .int .u64 (qt : Int)] 75)).alloc (.cells #[.slice none 0 0, .int .u32 0, .int .i64 0] 79)).cell? ⟨wr.heap.size, 3, none⟩ = some (.int .u64 (qt : Int)) := Blk.cell HAW.out 3
                      have HOUT := Lib.hid (ks_out HKW.out.sec HKW.out.mn HKO.out.1 HKO.out.2)
                      have C : Hid (Calls Tryd.prog 47 #[.agg #[.slice os ns cs, .int .u32 (d : Int), .int .i64 (M : Int)], .int .u32 1] ((wr.alloc (.cells #[.slice od la ca, .int .i64 cas, .int .u32 (qn : Int), .int .u64 (qt : Int)] 75)).alloc (.cells #[.slice none 0 0, .int .u32 0, .int .i64 0] 79)) fun e w' => e = .returned (.tuple #[.agg #[.slice none 0 0, .int .u32 0, .int .i64 0], .iface 146 (.int .i64 5)]) ∧ Below ((wr.alloc (.cells #[.slice od la ca, .int .i64 cas, .int .u32 (qn : Int), .int .u64 (qt : Int)] 75)).alloc (.cells #[.slice none 0 0, .int .u32 0, .int .i64 0] 79)).heap.size ((wr.alloc (.cells #[.slice od la ca, .int .i64 cas, .int .u32 (qn : Int), .int .u64 (qt : Int)] 75)).alloc (.cells #[.slice none 0 0, .int .u32 0, .int .i64 0] 79)) w') := Lib.hid (delete_miss os ns cs d M V _ HKW.out.lens (by omega) HKW.out.verss 1 HKW.out.sec HOUT.out)
                      have ne1 : ¬ (w1.heap.size = wr.heap.size) := by have := HBT.out; omega
                      have ne2 : ¬ (wr.heap.size = w1.heap.size) := by have := HBT.out; omega
                      go_wp2_with fail
                      refine C.out.mono ?_
                      rintro e w2 ⟨rfl, hb2⟩
                      have HB2 := Lib.hid hb2
                      clear C
                      have hT2 := HTW.out.below hb2 HTW.out.lt
                      have hA2 := HAW.out.below hb2 HAW.out.lt
                      have hK2 := HKW.out.later hb2
                      have t0 : w2.cell? ⟨wr.heap.size + 1, 0, none⟩ = some (.slice none 0 0) := Blk.cell hT2 0
                      have tz0 : w2.frozen? ⟨wr.heap.size + 1, 0, none⟩ = false := Blk.free hT2 0
                      have t1 : w2.cell? ⟨wr.heap.size + 1, 1, none⟩ = some (.int .u32 0) := Blk.cell hT2 1
                      have tz1 : w2.frozen? ⟨wr.heap.size + 1, 1, none⟩ = false := Blk.free hT2 1
                      have t2 : w2.cell? ⟨wr.heap.size + 1, 2, none⟩ = some (.int .i64 0) := Blk.cell hT2 2
                      have tz2 : w2.frozen? ⟨wr.heap.size + 1, 2, none⟩ = false := Blk.free hT2 2
                      have b0 : w2.cell? ⟨wr.heap.size, 0, none⟩ = some (.slice od la ca) := Blk.cell hA2 0
                      have b2 : w2.cell? ⟨wr.heap.size, 2, none⟩ = some (.int .u32 (qn : Int)) := Blk.cell hA2 2
                      have b3 : w2.cell? ⟨wr.heap.size, 3, none⟩ = some (.int .u64 (qt : Int)) := Blk.cell hA2 3
                      clear hT2 hA2 hK2 hb2 s0 s1 s2 a0 a3
                      go_wp2_with fail
                      go_meet
                      exact kr1_err HKW.out HTW.out (by have := HBT.out; omega) (by have := HBT.out; omega) (fun x hx => by have := HK.out.dvb x hx; omega) (fun x hx => by have := HK.out.svb x hx; omega) HB2.out ⟨rfl, rfl, rfl, Nat.le_refl _, fun _ _ => rfl⟩
                · have HKO := Lib.hid (And.intro (Nat.le_refl 1) (Or.inl (show d < 1 by omega) : d < 1 ∨ 1 + M ≤ d))
                  have q8 : decide ((1 : Int) ≤ (d : Int)) = false := by simp; omega
                  clear k1 k2
                  as_aux_lemma =>
                    have s0 : ((wr.alloc (.cells #[.slice od la ca, .int .i64 cas, .int .u32 (qn : Int), .int .u64 (qt : Int)] 75)).alloc (.cells #[.slice none 0 0, .int .u32 0, .int .i64 0] 79)).cell? ⟨w1.heap.size, 0, none⟩ = some (.slice os ns cs) := Blk.cell HKW.out.blk 0
                    have s1 : ((wr.alloc (.cells #[.slice od la ca, .int .i64 cas, .int .u32 (qn : Int), .int .u64 (qt : Int)] 75)).alloc (.cells #[.slice none 0 0, .int .u32 0, .int .i64 0] 79)).cell? ⟨w1.heap.size, 1, none⟩ = some (.int .u32 (d : Int)) := Blk.cell HKW.out.blk 1
                    have s2 : ((wr.alloc (.cells #[.slice od la ca, .int .i64 cas, .int .u32 (qn : Int), .int .u64 (qt : Int)] 75)).alloc (.cells #[.slice none 0 0, .int .u32 0, .int .i64 0] 79)).cell? ⟨w1.heap.size, 2, none⟩ = some (.int .i64 (M : Int)) := Blk.cell HKW.out.blk 2
                    have a0 : ((wr.alloc (.cells #[.slice od la ca, .int .i64 cas, .int .u32 (qn : Int), .int .u64 (qt : Int)] 75)).alloc (.cells #[.slice none 0 0, .int .u32 0, .int .i64 0] 79)).cell? ⟨wr.heap.size, 0, none⟩ = some (.slice od la ca) := Blk.cell HAW.out 0
                    have a3 : ((wr.alloc (.cells #[.slice od la ca, .int .i64 cas, .int .u32 (qn : Int), .int .u64 (qt : Int)] 75)).alloc (.cells #[.slice none 0 0, .int .u32 0, .int .i64 0] 79)).cell? ⟨wr.heap.size, 3, none⟩ = some (.int .u64 (qt : Int)) := Blk.cell HAW.out 3
                    have HOUT := Lib.hid (ks_out HKW.out.sec HKW.out.mn HKO.out.1 HKO.out.2)
                    have C : Hid (Calls Tryd.prog 47 #[.agg #[.slice os ns cs, .int .u32 (d : Int), .int .i64 (M : Int)], .int .u32 1] ((wr.alloc (.cells #[.slice od la ca, .int .i64 cas, .int .u32 (qn : Int), .int .u64 (qt : Int)] 75)).alloc (.cells #[.slice none 0 0, .int .u32 0, .int .i64 0] 79)) fun e w' => e = .returned (.tuple #[.agg #[.slice none 0 0, .int .u32 0, .int .i64 0], .iface 146 (.int .i64 5)]) ∧ Below ((wr.alloc (.cells #[.slice od la ca, .int .i64 cas, .int .u32 (qn : Int), .int .u64 (qt : Int)] 75)).alloc (.cells #[.slice none 0 0, .int .u32 0, .int .i64 0] 79)).heap.size ((wr.alloc (.cells #[.slice od la ca, .int .i64 cas, .int .u32 (qn : Int), .int .u64 (qt : Int)] 75)).alloc (.cells #[.slice none 0 0, .int .u32 0, .int .i64 0] 79)) w') := Lib.hid (delete_miss os ns cs d M V _ HKW.out.lens (by omega) HKW.out.verss 1 HKW.out.sec HOUT.out)
                    have ne1 : ¬ (w1.heap.size = wr.heap.size) := by have := HBT.out; omega
                    have ne2 : ¬ (wr.heap.size = w1.heap.size) := by have := HBT.out; omega
                    go_wp2_with fail
                    refine C.out.mono ?_
                    rintro e w2 ⟨rfl, hb2⟩
                    have HB2 := Lib.hid hb2
                    clear C
                    have hT2 := HTW.out.below hb2 HTW.out.lt
                    have hA2 := HAW.out.below hb2 HAW.out.lt
                    have hK2 := HKW.out.later hb2
                    have t0 : w2.cell? ⟨wr.heap.size + 1, 0, none⟩ = some (.slice none 0 0) := Blk.cell hT2 0
                    have tz0 : w2.frozen? ⟨wr.heap.size + 1, 0, none⟩ = false := Blk.free hT2 0
                    have t1 : w2.cell? ⟨wr.heap.size + 1, 1, none⟩ = some (.int .u32 0) := Blk.cell hT2 1
                    have tz1 : w2.frozen? ⟨wr.heap.size + 1, 1, none⟩ = false := Blk.free hT2 1
                    have t2 : w2.cell? ⟨wr.heap.size + 1, 2, none⟩ = some (.int .i64 0) := Blk.cell hT2 2
                    have tz2 : w2.frozen? ⟨wr.heap.size + 1, 2, none⟩ = false := Blk.free hT2 2
                    have b0 : w2.cell? ⟨wr.heap.size, 0, none⟩ = some (.slice od la ca) := Blk.cell hA2 0
                    have b2 : w2.cell? ⟨wr.heap.size, 2, none⟩ = some (.int .u32 (qn : Int)) := Blk.cell hA2 2
                    have b3 : w2.cell? ⟨wr.heap.size, 3, none⟩ = some (.int .u64 (qt : Int)) := Blk.cell hA2 3
                    clear hT2 hA2 hK2 hb2 s0 s1 s2 a0 a3
                    go_wp2_with fail
                    go_meet
                    exact kr1_err HKW.out HTW.out (by have := HBT.out; omega) (by have := HBT.out; omega) (fun x hx => by have := HK.out.dvb x hx; omega) (fun x hx => by have := HK.out.svb x hx; omega) HB2.out ⟨rfl, rfl, rfl, Nat.le_refl _, fun _ _ => rfl⟩
            · by_cases r1 : qt % 5 = 1
              · have hr : (qt : Int) % 5 = 1 := by omega
                clear r0 r1
                by_cases k1 : 1 ≤ kk
                · by_cases k2 : kk ≤ d
                  · by_cases k3 : d < kk + M
                    · have hb0 : b0 = true := by rw [← HB0.out]; simp; omega
                      subst hb0
                      obtain ⟨q, hq⟩ : ∃ q, kk = q + 1 := ⟨kk - 1, by omega⟩
                      have HQ := Lib.hid hq
                      have HKI := Lib.hid (And.intro k1 (And.intro k2 k3))
                      have q1 : (kk : Int) - 1 = (q : Int) := by omega
                      have q2 : (q : Int) % 64 = (q : Int) := by have := HKK.out; omega
                      have q3 : (1 : Int) ≤ (kk : Int) := by omega
                      have q4 : (d : Int) - (M : Int) < (kk : Int) := by omega
                      have q5 : max (kk : Int) 1 = (kk : Int) := by omega
                      clear k1 k3 hq
                      have s0 : ((wr.alloc (.cells #[.slice od la ca, .int .i64 cas, .int .u32 (qn : Int), .int .u64 (qt : Int)] 75)).alloc (.cells #[.slice none 0 0, .int .u32 0, .int .i64 0] 79)).cell? ⟨w1.heap.size, 0, none⟩ = some (.slice os ns cs) := Blk.cell HKW.out.blk 0
                      have s1 : ((wr.alloc (.cells #[.slice od la ca, .int .i64 cas, .int .u32 (qn : Int), .int .u64 (qt : Int)] 75)).alloc (.cells #[.slice none 0 0, .int .u32 0, .int .i64 0] 79)).cell? ⟨w1.heap.size, 1, none⟩ = some (.int .u32 (d : Int)) := Blk.cell HKW.out.blk 1
                      have s2 : ((wr.alloc (.cells #[.slice od la ca, .int .i64 cas, .int .u32 (qn : Int), .int .u64 (qt : Int)] 75)).alloc (.cells #[.slice none 0 0, .int .u32 0, .int .i64 0] 79)).cell? ⟨w1.heap.size, 2, none⟩ = some (.int .i64 (M : Int)) := Blk.cell HKW.out.blk 2
                      have a0 : ((wr.alloc (.cells #[.slice od la ca, .int .i64 cas, .int .u32 (qn : Int), .int .u64 (qt : Int)] 75)).alloc (.cells #[.slice none 0 0, .int .u32 0, .int .i64 0] 79)).cell? ⟨wr.heap.size, 0, none⟩ = some (.slice od la ca) := Blk.cell HAW.out 0
                      have a3 : ((wr.alloc (.cells #[.slice od la ca, .int .i64 cas, .int .u32 (qn : Int), .int .u64 (qt : Int)] 75)).alloc (.cells #[.slice none 0 0, .int .u32 0, .int .i64 0] 79)).cell? ⟨wr.heap.size, 3, none⟩ = some (.int .u64 (qt : Int)) := Blk.cell HAW.out 3
                      obtain ⟨i, hi, he⟩ := ks_in HKW.out.sec HKW.out.mn HKI.out.1 HKI.out.2.1 HKI.out.2.2
                      have hnk : (V i).n = kk := he.trans (seek_pos (by have := HKI.out.1; omega))
                      have hsx := (HKW.out.km.1 i hi).1
                      rw [show (V i).n - 1 = q by have := HQ.out; omega] at hsx
                      obtain ⟨sx, hsx2⟩ : ∃ x, (V i).st = x := ⟨_, rfl⟩
                      rw [hsx2] at hsx
                      by_cases h2 : sx = 2
                      · as_aux_lemma =>
                          obtain rfl : sx = 2 := h2
                        
                          have HN2 := Lib.hid (show (2 : Int) = 2 from rfl)
                          have HSX := Lib.hid hsx
                          have HSX2 := Lib.hid hsx2
                          have HI := Lib.hid hi
                          have HE := Lib.hid he
                          have HNK := Lib.hid hnk
                          have C : Hid (Calls Tryd.prog 49 #[.agg #[.slice os ns cs, .int .u32 (d : Int), .int .i64 (M : Int)], .int .u32 (kk : Int)] ((wr.alloc (.cells #[.slice od la ca, .int .i64 cas, .int .u32 (qn : Int), .int .u64 (qt : Int)] 75)).alloc (.cells #[.slice none 0 0, .int .u32 0, .int .i64 0] 79)) fun e w' => e = .returned (.tuple #[.agg #[.slice none 0 0, .int .u32 0, .int .i64 0], .iface 146 (.int .i64 21)]) ∧ Below ((wr.alloc (.cells #[.slice od la ca, .int .i64 cas, .int .u32 (qn : Int), .int .u64 (qt : Int)] 75)).alloc (.cells #[.slice none 0 0, .int .u32 0, .int .i64 0] 79)).heap.size ((wr.alloc (.cells #[.slice od la ca, .int .i64 cas, .int .u32 (qn : Int), .int .u64 (qt : Int)] 75)).alloc (.cells #[.slice none 0 0, .int .u32 0, .int .i64 0] 79)) w') := Lib.hid (undelete_gone os ns cs d M V _ HKW.out.lens (by omega) HKW.out.verss kk i HKW.out.sec HI.out HE.out HSX2.out)
                          clear hsx hsx2 hi he hnk
                          have ne1 : ¬ (w1.heap.size = wr.heap.size) := by have := HBT.out; omega
                          have ne2 : ¬ (wr.heap.size = w1.heap.size) := by have := HBT.out; omega
                          have qlt : (q : Int) < 64 := by have := HQ.out; have := HKK.out; omega
                          have qlt0 : (0 : Int) ≤ (q : Int) := by omega
                          go_wp2_with fail
                          refine C.out.mono ?_
                          rintro e w2 ⟨rfl, hb2⟩
                          have HB2 := Lib.hid hb2
                          clear C
                          have hT2 := HTW.out.below hb2 HTW.out.lt
                          have hA2 := HAW.out.below hb2 HAW.out.lt
                          have hK2 := HKW.out.later hb2
                          have t0 : w2.cell? ⟨wr.heap.size + 1, 0, none⟩ = some (.slice none 0 0) := Blk.cell hT2 0
                          have tz0 : w2.frozen? ⟨wr.heap.size + 1, 0, none⟩ = false := Blk.free hT2 0
                          have t1 : w2.cell? ⟨wr.heap.size + 1, 1, none⟩ = some (.int .u32 0) := Blk.cell hT2 1
                          have tz1 : w2.frozen? ⟨wr.heap.size + 1, 1, none⟩ = false := Blk.free hT2 1
                          have t2 : w2.cell? ⟨wr.heap.size + 1, 2, none⟩ = some (.int .i64 0) := Blk.cell hT2 2
                          have tz2 : w2.frozen? ⟨wr.heap.size + 1, 2, none⟩ = false := Blk.free hT2 2
                          have b0 : w2.cell? ⟨wr.heap.size, 0, none⟩ = some (.slice od la ca) := Blk.cell hA2 0
                          have b2 : w2.cell? ⟨wr.heap.size, 2, none⟩ = some (.int .u32 (qn : Int)) := Blk.cell hA2 2
                          have b3 : w2.cell? ⟨wr.heap.size, 3, none⟩ = some (.int .u64 (qt : Int)) := Blk.cell hA2 3
                          have y0 : w2.cell? ⟨w1.heap.size + 1, q, none⟩ = some (.int .i64 2) := by rw [hK2.sta.cell (by have := HQ.out; have := HKK.out; omega), HSX.out]
                          have y1 : w2.frozen? ⟨w1.heap.size + 1, q, none⟩ = false := hK2.sta.free q
                          clear hT2 hA2 hK2 hb2 s0 s1 s2 a0 a3
                          go_wp2_with fail
                          have q6 : IntKind.i64.wrap ((kk : Int) - 1) = (q : Int) := by rw [IntWalk.i64_in _ (by omega)]; omega
                          have q7 : ((q : Int)).tmod 64 = (q : Int) := by rw [Int.tmod_eq_emod_of_nonneg (by omega)]; omega
                          have q9 : IntKind.i64.wrap (q : Int) = (q : Int) := IntWalk.i64_in _ (by omega)
                          go_region_held3 (fun w' => w'.cell? ⟨w1.heap.size + 1, q, none⟩ = some (.int .i64 2)) (go_keep) (fail)
                          clear q6 q7 q9
                          go_wp2_with fail
                          go_meet
                          exact kr1_err HKW.out HTW.out (by have := HBT.out; omega) (by have := HBT.out; omega) (fun x hx => by have := HK.out.dvb x hx; omega) (fun x hx => by have := HK.out.svb x hx; omega) HB2.out ⟨rfl, rfl, rfl, Nat.le_refl _, fun _ _ => rfl⟩
                      · as_aux_lemma =>
                          have x1 : (sx == 2) = false := by rw [beq_eq_false_iff_ne]; exact h2
                          have x2 : (sx != 2) = true := by rw [bne_iff_ne]; exact h2
                          have HN2 := Lib.hid h2
                          have HSX := Lib.hid hsx
                          have HSX2 := Lib.hid hsx2
                          have HI := Lib.hid hi
                          have HE := Lib.hid he
                          have HNK := Lib.hid hnk
                          have C : Hid (Calls Tryd.prog 49 #[.agg #[.slice os ns cs, .int .u32 (d : Int), .int .i64 (M : Int)], .int .u32 (kk : Int)] ((wr.alloc (.cells #[.slice od la ca, .int .i64 cas, .int .u32 (qn : Int), .int .u64 (qt : Int)] 75)).alloc (.cells #[.slice none 0 0, .int .u32 0, .int .i64 0] 79)) fun e w' => ∃ v, e = .returned (.tuple #[.agg #[v, .int .u32 (d : Int), .int .i64 (M : Int)], .nilIface]) ∧ GV w' ((wr.alloc (.cells #[.slice od la ca, .int .i64 cas, .int .u32 (qn : Int), .int .u64 (qt : Int)] 75)).alloc (.cells #[.slice none 0 0, .int .u32 0, .int .i64 0] 79)).heap.size v ns (setV V i 0) ∧ Below ((wr.alloc (.cells #[.slice od la ca, .int .i64 cas, .int .u32 (qn : Int), .int .u64 (qt : Int)] 75)).alloc (.cells #[.slice none 0 0, .int .u32 0, .int .i64 0] 79)).heap.size ((wr.alloc (.cells #[.slice od la ca, .int .i64 cas, .int .u32 (qn : Int), .int .u64 (qt : Int)] 75)).alloc (.cells #[.slice none 0 0, .int .u32 0, .int .i64 0] 79)) w') := Lib.hid (undelete_ok os ns cs d M V _ HKW.out.lens (by omega) HKW.out.verss kk i HKW.out.sec HI.out HE.out (by rw [HSX2.out]; exact HN2.out))
                          clear hsx hsx2 hi he hnk h2
                          have ne1 : ¬ (w1.heap.size = wr.heap.size) := by have := HBT.out; omega
                          have ne2 : ¬ (wr.heap.size = w1.heap.size) := by have := HBT.out; omega
                          have qlt : (q : Int) < 64 := by have := HQ.out; have := HKK.out; omega
                          have qlt0 : (0 : Int) ≤ (q : Int) := by omega
                          go_wp2_with fail
                          refine C.out.mono ?_
                          rintro e w2 ⟨vv, rfl, hG2, hb2⟩
                          obtain ⟨o2, c2v, rfl, _, _⟩ := hG2.slice
                          have HG2 := Lib.hid hG2
                          have HB2 := Lib.hid hb2
                          clear hG2 C
                          have hT2 := HTW.out.below hb2 HTW.out.lt
                          have hA2 := HAW.out.below hb2 HAW.out.lt
                          have hK2 := HKW.out.later hb2
                          have t0 : w2.cell? ⟨wr.heap.size + 1, 0, none⟩ = some (.slice none 0 0) := Blk.cell hT2 0
                          have tz0 : w2.frozen? ⟨wr.heap.size + 1, 0, none⟩ = false := Blk.free hT2 0
                          have t1 : w2.cell? ⟨wr.heap.size + 1, 1, none⟩ = some (.int .u32 0) := Blk.cell hT2 1
                          have tz1 : w2.frozen? ⟨wr.heap.size + 1, 1, none⟩ = false := Blk.free hT2 1
                          have t2 : w2.cell? ⟨wr.heap.size + 1, 2, none⟩ = some (.int .i64 0) := Blk.cell hT2 2
                          have tz2 : w2.frozen? ⟨wr.heap.size + 1, 2, none⟩ = false := Blk.free hT2 2
                          have b0 : w2.cell? ⟨wr.heap.size, 0, none⟩ = some (.slice od la ca) := Blk.cell hA2 0
                          have b2 : w2.cell? ⟨wr.heap.size, 2, none⟩ = some (.int .u32 (qn : Int)) := Blk.cell hA2 2
                          have b3 : w2.cell? ⟨wr.heap.size, 3, none⟩ = some (.int .u64 (qt : Int)) := Blk.cell hA2 3
                          have y0 : w2.cell? ⟨w1.heap.size + 1, q, none⟩ = some (.int .i64 sx) := by rw [hK2.sta.cell (by have := HQ.out; have := HKK.out; omega), HSX.out]
                          have y1 : w2.frozen? ⟨w1.heap.size + 1, q, none⟩ = false := hK2.sta.free q
                          clear hT2 hA2 hK2 hb2 s0 s1 s2 a0 a3
                          go_wp2_with fail
                          have q6 : IntKind.i64.wrap ((kk : Int) - 1) = (q : Int) := by rw [IntWalk.i64_in _ (by omega)]; omega
                          have q7 : ((q : Int)).tmod 64 = (q : Int) := by rw [Int.tmod_eq_emod_of_nonneg (by omega)]; omega
                          have q9 : IntKind.i64.wrap (q : Int) = (q : Int) := IntWalk.i64_in _ (by omega)
                          go_region_held3 (fun w' => w'.cell? ⟨w1.heap.size + 1, q, none⟩ = some (.int .i64 sx)) (go_keep) (fail)
                          clear q6 q7 q9
                          go_wp2_with fail
                          go_meet
                          exact kr1_set HKW.out HTW.out (by have := HBT.out; omega) (by have := HBT.out; omega) (fun x hx => by have := HK.out.dvb x hx; omega) HG2.out HB2.out rfl (set_sec HKW.out.sec (by decide) (by decide)) (KM.set HKW.out.km HKW.out.sec HI.out (by have := HQ.out; have := HNK.out; omega) (by rw [HSX2.out]; exact HN2.out)) (by have := HQ.out; have := HKK.out; omega) HDJ.out ⟨rfl, rfl, rfl, Nat.le_refl _, fun _ _ => rfl⟩
                    · have hb0 : b0 = false := by rw [← HB0.out]; simp; omega
                      subst hb0
                      have HKO := Lib.hid (And.intro k1 (Or.inr (show kk + M ≤ d by omega) : d < kk ∨ kk + M ≤ d))
                      have q3 : (1 : Int) ≤ (kk : Int) := by omega
                      have q4 : decide ((d : Int) - (M : Int) < (kk : Int)) = false := by simp; omega
                      have q5 : max (kk : Int) 1 = (kk : Int) := by omega
                      clear k1 k3
                      as_aux_lemma =>
                        have s0 : ((wr.alloc (.cells #[.slice od la ca, .int .i64 cas, .int .u32 (qn : Int), .int .u64 (qt : Int)] 75)).alloc (.cells #[.slice none 0 0, .int .u32 0, .int .i64 0] 79)).cell? ⟨w1.heap.size, 0, none⟩ = some (.slice os ns cs) := Blk.cell HKW.out.blk 0
                        have s1 : ((wr.alloc (.cells #[.slice od la ca, .int .i64 cas, .int .u32 (qn : Int), .int .u64 (qt : Int)] 75)).alloc (.cells #[.slice none 0 0, .int .u32 0, .int .i64 0] 79)).cell? ⟨w1.heap.size, 1, none⟩ = some (.int .u32 (d : Int)) := Blk.cell HKW.out.blk 1
                        have s2 : ((wr.alloc (.cells #[.slice od la ca, .int .i64 cas, .int .u32 (qn : Int), .int .u64 (qt : Int)] 75)).alloc (.cells #[.slice none 0 0, .int .u32 0, .int .i64 0] 79)).cell? ⟨w1.heap.size, 2, none⟩ = some (.int .i64 (M : Int)) := Blk.cell HKW.out.blk 2
                        have a0 : ((wr.alloc (.cells #[.slice od la ca, .int .i64 cas, .int .u32 (qn : Int), .int .u64 (qt : Int)] 75)).alloc (.cells #[.slice none 0 0, .int .u32 0, .int .i64 0] 79)).cell? ⟨wr.heap.size, 0, none⟩ = some (.slice od la ca) := Blk.cell HAW.out 0
                        have a3 : ((wr.alloc (.cells #[.slice od la ca, .int .i64 cas, .int .u32 (qn : Int), .int .u64 (qt : Int)] 75)).alloc (.cells #[.slice none 0 0, .int .u32 0, .int .i64 0] 79)).cell? ⟨wr.heap.size, 3, none⟩ = some (.int .u64 (qt : Int)) := Blk.cell HAW.out 3
                        have HOUT := Lib.hid (ks_out HKW.out.sec HKW.out.mn HKO.out.1 HKO.out.2)
                        have C : Hid (Calls Tryd.prog 49 #[.agg #[.slice os ns cs, .int .u32 (d : Int), .int .i64 (M : Int)], .int .u32 (kk : Int)] ((wr.alloc (.cells #[.slice od la ca, .int .i64 cas, .int .u32 (qn : Int), .int .u64 (qt : Int)] 75)).alloc (.cells #[.slice none 0 0, .int .u32 0, .int .i64 0] 79)) fun e w' => e = .returned (.tuple #[.agg #[.slice none 0 0, .int .u32 0, .int .i64 0], .iface 146 (.int .i64 5)]) ∧ Below ((wr.alloc (.cells #[.slice od la ca, .int .i64 cas, .int .u32 (qn : Int), .int .u64 (qt : Int)] 75)).alloc (.cells #[.slice none 0 0, .int .u32 0, .int .i64 0] 79)).heap.size ((wr.alloc (.cells #[.slice od la ca, .int .i64 cas, .int .u32 (qn : Int), .int .u64 (qt : Int)] 75)).alloc (.cells #[.slice none 0 0, .int .u32 0, .int .i64 0] 79)) w') := Lib.hid (undelete_miss os ns cs d M V _ HKW.out.lens (by omega) HKW.out.verss kk HKW.out.sec HOUT.out)
                        have ne1 : ¬ (w1.heap.size = wr.heap.size) := by have := HBT.out; omega
                        have ne2 : ¬ (wr.heap.size = w1.heap.size) := by have := HBT.out; omega
                        go_wp2_with fail
                        refine C.out.mono ?_
                        rintro e w2 ⟨rfl, hb2⟩
                        have HB2 := Lib.hid hb2
                        clear C
                        have hT2 := HTW.out.below hb2 HTW.out.lt
                        have hA2 := HAW.out.below hb2 HAW.out.lt
                        have hK2 := HKW.out.later hb2
                        have t0 : w2.cell? ⟨wr.heap.size + 1, 0, none⟩ = some (.slice none 0 0) := Blk.cell hT2 0
                        have tz0 : w2.frozen? ⟨wr.heap.size + 1, 0, none⟩ = false := Blk.free hT2 0
                        have t1 : w2.cell? ⟨wr.heap.size + 1, 1, none⟩ = some (.int .u32 0) := Blk.cell hT2 1
                        have tz1 : w2.frozen? ⟨wr.heap.size + 1, 1, none⟩ = false := Blk.free hT2 1
                        have t2 : w2.cell? ⟨wr.heap.size + 1, 2, none⟩ = some (.int .i64 0) := Blk.cell hT2 2
                        have tz2 : w2.frozen? ⟨wr.heap.size + 1, 2, none⟩ = false := Blk.free hT2 2
                        have b0 : w2.cell? ⟨wr.heap.size, 0, none⟩ = some (.slice od la ca) := Blk.cell hA2 0
                        have b2 : w2.cell? ⟨wr.heap.size, 2, none⟩ = some (.int .u32 (qn : Int)) := Blk.cell hA2 2
                        have b3 : w2.cell? ⟨wr.heap.size, 3, none⟩ = some (.int .u64 (qt : Int)) := Blk.cell hA2 3
                        clear hT2 hA2 hK2 hb2 s0 s1 s2 a0 a3
                        go_wp2_with fail
                        go_meet
                        exact kr1_err HKW.out HTW.out (by have := HBT.out; omega) (by have := HBT.out; omega) (fun x hx => by have := HK.out.dvb x hx; omega) (fun x hx => by have := HK.out.svb x hx; omega) HB2.out ⟨rfl, rfl, rfl, Nat.le_refl _, fun _ _ => rfl⟩
                  · have hb0 : b0 = false := by rw [← HB0.out]; simp; omega
                    subst hb0
                    have HKO := Lib.hid (And.intro k1 (Or.inl (show d < kk by omega) : d < kk ∨ kk + M ≤ d))
                    have q3 : (1 : Int) ≤ (kk : Int) := by omega
                    have q4 : decide (kk ≤ d) = false := by simp; omega
                    have q5 : max (kk : Int) 1 = (kk : Int) := by omega
                    clear k1 k2
                    as_aux_lemma =>
                      have s0 : ((wr.alloc (.cells #[.slice od la ca, .int .i64 cas, .int .u32 (qn : Int), .int .u64 (qt : Int)] 75)).alloc (.cells #[.slice none 0 0, .int .u32 0, .int .i64 0] 79)).cell? ⟨w1.heap.size, 0, none⟩ = some (.slice os ns cs) := Blk.cell HKW.out.blk 0
                      have s1 : ((wr.alloc (.cells #[.slice od la ca, .int .i64 cas, .int .u32 (qn : Int), .int .u64 (qt : Int)] 75)).alloc (.cells #[.slice none 0 0, .int .u32 0, .int .i64 0] 79)).cell? ⟨w1.heap.size, 1, none⟩ = some (.int .u32 (d : Int)) := Blk.cell HKW.out.blk 1
                      have s2 : ((wr.alloc (.cells #[.slice od la ca, .int .i64 cas, .int .u32 (qn : Int), .int .u64 (qt : Int)] 75)).alloc (.cells #[.slice none 0 0, .int .u32 0, .int .i64 0] 79)).cell? ⟨w1.heap.size, 2, none⟩ = some (.int .i64 (M : Int)) := Blk.cell HKW.out.blk 2
                      have a0 : ((wr.alloc (.cells #[.slice od la ca, .int .i64 cas, .int .u32 (qn : Int), .int .u64 (qt : Int)] 75)).alloc (.cells #[.slice none 0 0, .int .u32 0, .int .i64 0] 79)).cell? ⟨wr.heap.size, 0, none⟩ = some (.slice od la ca) := Blk.cell HAW.out 0
                      have a3 : ((wr.alloc (.cells #[.slice od la ca, .int .i64 cas, .int .u32 (qn : Int), .int .u64 (qt : Int)] 75)).alloc (.cells #[.slice none 0 0, .int .u32 0, .int .i64 0] 79)).cell? ⟨wr.heap.size, 3, none⟩ = some (.int .u64 (qt : Int)) := Blk.cell HAW.out 3
                      have HOUT := Lib.hid (ks_out HKW.out.sec HKW.out.mn HKO.out.1 HKO.out.2)
                      have C : Hid (Calls Tryd.prog 49 #[.agg #[.slice os ns cs, .int .u32 (d : Int), .int .i64 (M : Int)], .int .u32 (kk : Int)] ((wr.alloc (.cells #[.slice od la ca, .int .i64 cas, .int .u32 (qn : Int), .int .u64 (qt : Int)] 75)).alloc (.cells #[.slice none 0 0, .int .u32 0, .int .i64 0] 79)) fun e w' => e = .returned (.tuple #[.agg #[.slice none 0 0, .int .u32 0, .int .i64 0], .iface 146 (.int .i64 5)]) ∧ Below ((wr.alloc (.cells #[.slice od la ca, .int .i64 cas, .int .u32 (qn : Int), .int .u64 (qt : Int)] 75)).alloc (.cells #[.slice none 0 0, .int .u32 0, .int .i64 0] 79)).heap.size ((wr.alloc (.cells #[.slice od la ca, .int .i64 cas, .int .u32 (qn : Int), .int .u64 (qt : Int)] 75)).alloc (.cells #[.slice none 0 0, .int .u32 0, .int .i64 0] 79)) w') := Lib.hid (undelete_miss os ns cs d M V _ HKW.out.lens (by omega) HKW.out.verss kk HKW.out.sec HOUT.out)
                      have ne1 : ¬ (w1.heap.size = wr.heap.size) := by have := HBT.out; omega
                      have ne2 : ¬ (wr.heap.size = w1.heap.size) := by have := HBT.out; omega
                      go_wp2_with fail
                      refine C.out.mono ?_
                      rintro e w2 ⟨rfl, hb2⟩
                      have HB2 := Lib.hid hb2
                      clear C
                      have hT2 := HTW.out.below hb2 HTW.out.lt
                      have hA2 := HAW.out.below hb2 HAW.out.lt
                      have hK2 := HKW.out.later hb2
                      have t0 : w2.cell? ⟨wr.heap.size + 1, 0, none⟩ = some (.slice none 0 0) := Blk.cell hT2 0
                      have tz0 : w2.frozen? ⟨wr.heap.size + 1, 0, none⟩ = false := Blk.free hT2 0
                      have t1 : w2.cell? ⟨wr.heap.size + 1, 1, none⟩ = some (.int .u32 0) := Blk.cell hT2 1
                      have tz1 : w2.frozen? ⟨wr.heap.size + 1, 1, none⟩ = false := Blk.free hT2 1
                      have t2 : w2.cell? ⟨wr.heap.size + 1, 2, none⟩ = some (.int .i64 0) := Blk.cell hT2 2
                      have tz2 : w2.frozen? ⟨wr.heap.size + 1, 2, none⟩ = false := Blk.free hT2 2
                      have b0 : w2.cell? ⟨wr.heap.size, 0, none⟩ = some (.slice od la ca) := Blk.cell hA2 0
                      have b2 : w2.cell? ⟨wr.heap.size, 2, none⟩ = some (.int .u32 (qn : Int)) := Blk.cell hA2 2
                      have b3 : w2.cell? ⟨wr.heap.size, 3, none⟩ = some (.int .u64 (qt : Int)) := Blk.cell hA2 3
                      clear hT2 hA2 hK2 hb2 s0 s1 s2 a0 a3
                      go_wp2_with fail
                      go_meet
                      exact kr1_err HKW.out HTW.out (by have := HBT.out; omega) (by have := HBT.out; omega) (fun x hx => by have := HK.out.dvb x hx; omega) (fun x hx => by have := HK.out.svb x hx; omega) HB2.out ⟨rfl, rfl, rfl, Nat.le_refl _, fun _ _ => rfl⟩
                · have hb0 : b0 = false := by rw [← HB0.out]; simp; omega
                  subst hb0
                  have k0 : (kk : Int) = 0 := by omega
                  by_cases k2 : 1 ≤ d
                  · by_cases k3 : d < 1 + M
                    · have HQ := Lib.hid (show (1 : Nat) = 0 + 1 from rfl)
                      have HKI := Lib.hid (And.intro (Nat.le_refl 1) (And.intro k2 k3))
                      have q4 : (d : Int) - (M : Int) < 1 := by omega
                      have q8 : (1 : Int) ≤ (d : Int) := by omega
                      clear k1 k3
                      have s0 : ((wr.alloc (.cells #[.slice od la ca, .int .i64 cas, .int .u32 (qn : Int), .int .u64 (qt : Int)] 75)).alloc (.cells #[.slice none 0 0, .int .u32 0, .int .i64 0] 79)).cell? ⟨w1.heap.size, 0, none⟩ = some (.slice os ns cs) := Blk.cell HKW.out.blk 0
                      have s1 : ((wr.alloc (.cells #[.slice od la ca, .int .i64 cas, .int .u32 (qn : Int), .int .u64 (qt : Int)] 75)).alloc (.cells #[.slice none 0 0, .int .u32 0, .int .i64 0] 79)).cell? ⟨w1.heap.size, 1, none⟩ = some (.int .u32 (d : Int)) := Blk.cell HKW.out.blk 1
                      have s2 : ((wr.alloc (.cells #[.slice od la ca, .int .i64 cas, .int .u32 (qn : Int), .int .u64 (qt : Int)] 75)).alloc (.cells #[.slice none 0 0, .int .u32 0, .int .i64 0] 79)).cell? ⟨w1.heap.size, 2, none⟩ = some (.int .i64 (M : Int)) := Blk.cell HKW.out.blk 2
                      have a0 : ((wr.alloc (.cells #[.slice od la ca, .int .i64 cas, .int .u32 (qn : Int), .int .u64 (qt : Int)] 75)).alloc (.cells #[.slice none 0 0, .int .u32 0, .int .i64 0] 79)).cell? ⟨wr.heap.size, 0, none⟩ = some (.slice od la ca) := Blk.cell HAW.out 0
                      have a3 : ((wr.alloc (.cells #[.slice od la ca, .int .i64 cas, .int .u32 (qn : Int), .int .u64 (qt : Int)] 75)).alloc (.cells #[.slice none 0 0, .int .u32 0, .int .i64 0] 79)).cell? ⟨wr.heap.size, 3, none⟩ = some (.int .u64 (qt : Int)) := Blk.cell HAW.out 3
                      obtain ⟨i, hi, he⟩ := ks_in HKW.out.sec HKW.out.mn HKI.out.1 HKI.out.2.1 HKI.out.2.2
                      have hnk : (V i).n = 1 := he.trans (seek_pos (by have := HKI.out.1; omega))
                      have hsx := (HKW.out.km.1 i hi).1
                      rw [show (V i).n - 1 = 0 by have := HQ.out; omega] at hsx
                      obtain ⟨sx, hsx2⟩ : ∃ x, (V i).st = x := ⟨_, rfl⟩
                      rw [hsx2] at hsx
                      by_cases h2 : sx = 2
                      · as_aux_lemma =>
                          obtain rfl : sx = 2 := h2
                        
                          have HN2 := Lib.hid (show (2 : Int) = 2 from rfl)
                          have HSX := Lib.hid hsx
                          have HSX2 := Lib.hid hsx2
                          have HI := Lib.hid hi
                          have HE := Lib.hid he
                          have HNK := Lib.hid hnk
                          have C : Hid (Calls Tryd.prog 49 #[.agg #[.slice os ns cs, .int .u32 (d : Int), .int .i64 (M : Int)], .int .u32 1] ((wr.alloc (.cells #[.slice od la ca, .int .i64 cas, .int .u32 (qn : Int), .int .u64 (qt : Int)] 75)).alloc (.cells #[.slice none 0 0, .int .u32 0, .int .i64 0] 79)) fun e w' => e = .returned (.tuple #[.agg #[.slice none 0 0, .int .u32 0, .int .i64 0], .iface 146 (.int .i64 21)]) ∧ Below ((wr.alloc (.cells #[.slice od la ca, .int .i64 cas, .int .u32 (qn : Int), .int .u64 (qt : Int)] 75)).alloc (.cells #[.slice none 0 0, .int .u32 0, .int .i64 0] 79)).heap.size ((wr.alloc (.cells #[.slice od la ca, .int .i64 cas, .int .u32 (qn : Int), .int .u64 (qt : Int)] 75)).alloc (.cells #[.slice none 0 0, .int .u32 0, .int .i64 0] 79)) w') := Lib.hid (undelete_gone os ns cs d M V _ HKW.out.lens (by omega) HKW.out.verss 1 i HKW.out.sec HI.out HE.out HSX2.out)
                          clear hsx hsx2 hi he hnk
                          have ne1 : ¬ (w1.heap.size = wr.heap.size) := by have := HBT.out; omega
                          have ne2 : ¬ (wr.heap.size = w1.heap.size) := by have := HBT.out; omega
                          have qlt : (0 : Int) < 64 := by have := HQ.out; have := HKK.out; omega
                          have qlt0 : (0 : Int) ≤ (0 : Int) := by omega
                          go_wp2_with fail
                          refine C.out.mono ?_
                          rintro e w2 ⟨rfl, hb2⟩
                          have HB2 := Lib.hid hb2
                          clear C
                          have hT2 := HTW.out.below hb2 HTW.out.lt
                          have hA2 := HAW.out.below hb2 HAW.out.lt
                          have hK2 := HKW.out.later hb2
                          have t0 : w2.cell? ⟨wr.heap.size + 1, 0, none⟩ = some (.slice none 0 0) := Blk.cell hT2 0
                          have tz0 : w2.frozen? ⟨wr.heap.size + 1, 0, none⟩ = false := Blk.free hT2 0
                          have t1 : w2.cell? ⟨wr.heap.size + 1, 1, none⟩ = some (.int .u32 0) := Blk.cell hT2 1
                          have tz1 : w2.frozen? ⟨wr.heap.size + 1, 1, none⟩ = false := Blk.free hT2 1
                          have t2 : w2.cell? ⟨wr.heap.size + 1, 2, none⟩ = some (.int .i64 0) := Blk.cell hT2 2
                          have tz2 : w2.frozen? ⟨wr.heap.size + 1, 2, none⟩ = false := Blk.free hT2 2
                          have b0 : w2.cell? ⟨wr.heap.size, 0, none⟩ = some (.slice od la ca) := Blk.cell hA2 0
                          have b2 : w2.cell? ⟨wr.heap.size, 2, none⟩ = some (.int .u32 (qn : Int)) := Blk.cell hA2 2
                          have b3 : w2.cell? ⟨wr.heap.size, 3, none⟩ = some (.int .u64 (qt : Int)) := Blk.cell hA2 3
                          have y0 : w2.cell? ⟨w1.heap.size + 1, 0, none⟩ = some (.int .i64 2) := by rw [hK2.sta.cell (by have := HQ.out; have := HKK.out; omega), HSX.out]
                          have y1 : w2.frozen? ⟨w1.heap.size + 1, 0, none⟩ = false := hK2.sta.free 0
                          clear hT2 hA2 hK2 hb2 s0 s1 s2 a0 a3
                          go_wp2_with fail
                          have q6 : IntKind.i64.wrap 0 = 0 := by decide
                          have q7 : (0 : Int).tmod 64 = 0 := by decide
                          have q9 : (0 : Int) < 64 := by decide
                          go_region_held3 (fun w' => w'.cell? ⟨w1.heap.size + 1, 0, none⟩ = some (.int .i64 2)) (go_keep) (fail)
                          clear q6 q7 q9
                          go_wp2_with fail
                          go_meet
                          exact kr1_err HKW.out HTW.out (by have := HBT.out; omega) (by have := HBT.out; omega) (fun x hx => by have := HK.out.dvb x hx; omega) (fun x hx => by have := HK.out.svb x hx; omega) HB2.out ⟨rfl, rfl, rfl, Nat.le_refl _, fun _ _ => rfl⟩
                      · as_aux_lemma =>
                          have x1 : (sx == 2) = false := by rw [beq_eq_false_iff_ne]; exact h2
                          have x2 : (sx != 2) = true := by rw [bne_iff_ne]; exact h2
                          have HN2 := Lib.hid h2
                          have HSX := Lib.hid hsx
                          have HSX2 := Lib.hid hsx2
                          have HI := Lib.hid hi
                          have HE := Lib.hid he
                          have HNK := Lib.hid hnk
                          have C : Hid (Calls Tryd.prog 49 #[.agg #[.slice os ns cs, .int .u32 (d : Int), .int .i64 (M : Int)], .int .u32 1] ((wr.alloc (.cells #[.slice od la ca, .int .i64 cas, .int .u32 (qn : Int), .int .u64 (qt : Int)] 75)).alloc (.cells #[.slice none 0 0, .int .u32 0, .int .i64 0] 79)) fun e w' => ∃ v, e = .returned (.tuple #[.agg #[v, .int .u32 (d : Int), .int .i64 (M : Int)], .nilIface]) ∧ GV w' ((wr.alloc (.cells #[.slice od la ca, .int .i64 cas, .int .u32 (qn : Int), .int .u64 (qt : Int)] 75)).alloc (.cells #[.slice none 0 0, .int .u32 0, .int .i64 0] 79)).heap.size v ns (setV V i 0) ∧ Below ((wr.alloc (.cells #[.slice od la ca, .int .i64 cas, .int .u32 (qn : Int), .int .u64 (qt : Int)] 75)).alloc (.cells #[.slice none 0 0, .int .u32 0, .int .i64 0] 79)).heap.size ((wr.alloc (.cells #[.slice od la ca, .int .i64 cas, .int .u32 (qn : Int), .int .u64 (qt : Int)] 75)).alloc (.cells #[.slice none 0 0, .int .u32 0, .int .i64 0] 79)) w') := Lib.hid (undelete_ok os ns cs d M V _ HKW.out.lens (by omega) HKW.out.verss 1 i HKW.out.sec HI.out HE.out (by rw [HSX2.out]; exact HN2.out))
                          clear hsx hsx2 hi he hnk h2
                          have ne1 : ¬ (w1.heap.size = wr.heap.size) := by have := HBT.out; omega
                          have ne2 : ¬ (wr.heap.size = w1.heap.size) := by have := HBT.out; omega
                          have qlt : (0 : Int) < 64 := by have := HQ.out; have := HKK.out; omega
                          have qlt0 : (0 : Int) ≤ (0 : Int) := by omega
                          go_wp2_with fail
                          refine C.out.mono ?_
                          rintro e w2 ⟨vv, rfl, hG2, hb2⟩
                          obtain ⟨o2, c2v, rfl, _, _⟩ := hG2.slice
                          have HG2 := Lib.hid hG2
                          have HB2 := Lib.hid hb2
                          clear hG2 C
                          have hT2 := HTW.out.below hb2 HTW.out.lt
                          have hA2 := HAW.out.below hb2 HAW.out.lt
                          have hK2 := HKW.out.later hb2
                          have t0 : w2.cell? ⟨wr.heap.size + 1, 0, none⟩ = some (.slice none 0 0) := Blk.cell hT2 0
                          have tz0 : w2.frozen? ⟨wr.heap.size + 1, 0, none⟩ = false := Blk.free hT2 0
                          have t1 : w2.cell? ⟨wr.heap.size + 1, 1, none⟩ = some (.int .u32 0) := Blk.cell hT2 1
                          have tz1 : w2.frozen? ⟨wr.heap.size + 1, 1, none⟩ = false := Blk.free hT2 1
                          have t2 : w2.cell? ⟨wr.heap.size + 1, 2, none⟩ = some (.int .i64 0) := Blk.cell hT2 2
                          have tz2 : w2.frozen? ⟨wr.heap.size + 1, 2, none⟩ = false := Blk.free hT2 2
                          have b0 : w2.cell? ⟨wr.heap.size, 0, none⟩ = some (.slice od la ca) := Blk.cell hA2 0
                          have b2 : w2.cell? ⟨wr.heap.size, 2, none⟩ = some (.int .u32 (qn : Int)) := Blk.cell hA2 2
                          have b3 : w2.cell? ⟨wr.heap.size, 3, none⟩ = some (.int .u64 (qt : Int)) := Blk.cell hA2 3
                          have y0 : w2.cell? ⟨w1.heap.size + 1, 0, none⟩ = some (.int .i64 sx) := by rw [hK2.sta.cell (by have := HQ.out; have := HKK.out; omega), HSX.out]
                          have y1 : w2.frozen? ⟨w1.heap.size + 1, 0, none⟩ = false := hK2.sta.free 0
                          clear hT2 hA2 hK2 hb2 s0 s1 s2 a0 a3
                          go_wp2_with fail
                          have q6 : IntKind.i64.wrap 0 = 0 := by decide
                          have q7 : (0 : Int).tmod 64 = 0 := by decide
                          have q9 : (0 : Int) < 64 := by decide
                          go_region_held3 (fun w' => w'.cell? ⟨w1.heap.size + 1, 0, none⟩ = some (.int .i64 sx)) (go_keep) (fail)
                          clear q6 q7 q9
                          go_wp2_with fail
                          go_meet
                          exact kr1_set HKW.out HTW.out (by have := HBT.out; omega) (by have := HBT.out; omega) (fun x hx => by have := HK.out.dvb x hx; omega) HG2.out HB2.out rfl (set_sec HKW.out.sec (by decide) (by decide)) (KM.set HKW.out.km HKW.out.sec HI.out (by have := HQ.out; have := HNK.out; omega) (by rw [HSX2.out]; exact HN2.out)) (by have := HQ.out; have := HKK.out; omega) HDJ.out ⟨rfl, rfl, rfl, Nat.le_refl _, fun _ _ => rfl⟩
                    · have HKO := Lib.hid (And.intro (Nat.le_refl 1) (Or.inr (show 1 + M ≤ d by omega) : d < 1 ∨ 1 + M ≤ d))
                      have q4 : decide ((d : Int) - (M : Int) < 1) = false := by simp; omega
                      have q8 : (1 : Int) ≤ (d : Int) := by omega
                      clear k1 k3
                      as_aux_lemma =>
                        have s0 : ((wr.alloc (.cells #[.slice od la ca, .int .i64 cas, .int .u32 (qn : Int), .int .u64 (qt : Int)] 75)).alloc (.cells #[.slice none 0 0, .int .u32 0, .int .i64 0] 79)).cell? ⟨w1.heap.size, 0, none⟩ = some (.slice os ns cs) := Blk.cell HKW.out.blk 0
                        have s1 : ((wr.alloc (.cells #[.slice od la ca, .int .i64 cas, .int .u32 (qn : Int), .int .u64 (qt : Int)] 75)).alloc (.cells #[.slice none 0 0, .int .u32 0, .int .i64 0] 79)).cell? ⟨w1.heap.size, 1, none⟩ = some (.int .u32 (d : Int)) := Blk.cell HKW.out.blk 1
                        have s2 : ((wr.alloc (.cells #[.slice od la ca, .int .i64 cas, .int .u32 (qn : Int), .int .u64 (qt : Int)] 75)).alloc (.cells #[.slice none 0 0, .int .u32 0, .int .i64 0] 79)).cell? ⟨w1.heap.size, 2, none⟩ = some (.int .i64 (M : Int)) := Blk.cell HKW.out.blk 2
                        have a0 : ((wr.alloc (.cells #[.slice od la ca, .int .i64 cas, .int .u32 (qn : Int), .int .u64 (qt : Int)] 75)).alloc (.cells #[.slice none 0 0, .int .u32 0, .int .i64 0] 79)).cell? ⟨wr.heap.size, 0, none⟩ = some (.slice od la ca) := Blk.cell HAW.out 0
                        have a3 : ((wr.alloc (.cells #[.slice od la ca, .int .i64 cas, .int .u32 (qn : Int), .int .u64 (qt : Int)] 75)).alloc (.cells #[.slice none 0 0, .int .u32 0, .int .i64 0] 79)).cell? ⟨wr.heap.size, 3, none⟩ = some (.int .u64 (qt : Int)) := Blk.cell HAW.out 3
                        have HOUT := Lib.hid (ks_out HKW.out.sec HKW.out.mn HKO.out.1 HKO.out.2)
                        have C : Hid (Calls Tryd.prog 49 #[.agg #[.slice os ns cs, .int .u32 (d : Int), .int .i64 (M : Int)], .int .u32 1] ((wr.alloc (.cells #[.slice od la ca, .int .i64 cas, .int .u32 (qn : Int), .int .u64 (qt : Int)] 75)).alloc (.cells #[.slice none 0 0, .int .u32 0, .int .i64 0] 79)) fun e w' => e = .returned (.tuple #[.agg #[.slice none 0 0, .int .u32 0, .int .i64 0], .iface 146 (.int .i64 5)]) ∧ Below ((wr.alloc (.cells #[.slice od la ca, .int .i64 cas, .int .u32 (qn : Int), .int .u64 (qt : Int)] 75)).alloc (.cells #[.slice none 0 0, .int .u32 0, .int .i64 0] 79)).heap.size ((wr.alloc (.cells #[.slice od la ca, .int .i64 cas, .int .u32 (qn : Int), .int .u64 (qt : Int)] 75)).alloc (.cells #[.slice none 0 0, .int .u32 0, .int .i64 0] 79)) w') := Lib.hid (undelete_miss os ns cs d M V _ HKW.out.lens (by omega) HKW.out.verss 1 HKW.out.sec HOUT.out)
                        have ne1 : ¬ (w1.heap.size = wr.heap.size) := by have := HBT.out; omega
                        have ne2 : ¬ (wr.heap.size = w1.heap.size) := by have := HBT.out; omega
                        go_wp2_with fail
                        refine C.out.mono ?_
                        rintro e w2 ⟨rfl, hb2⟩
                        have HB2 := Lib.hid hb2
                        clear C
                        have hT2 := HTW.out.below hb2 HTW.out.lt
                        have hA2 := HAW.out.below hb2 HAW.out.lt
                        have hK2 := HKW.out.later hb2
                        have t0 : w2.cell? ⟨wr.heap.size + 1, 0, none⟩ = some (.slice none 0 0) := Blk.cell hT2 0
                        have tz0 : w2.frozen? ⟨wr.heap.size + 1, 0, none⟩ = false := Blk.free hT2 0
                        have t1 : w2.cell? ⟨wr.heap.size + 1, 1, none⟩ = some (.int .u32 0) := Blk.cell hT2 1
                        have tz1 : w2.frozen? ⟨wr.heap.size + 1, 1, none⟩ = false := Blk.free hT2 1
                        have t2 : w2.cell? ⟨wr.heap.size + 1, 2, none⟩ = some (.int .i64 0) := Blk.cell hT2 2
                        have tz2 : w2.frozen? ⟨wr.heap.size + 1, 2, none⟩ = false := Blk.free hT2 2
                        have b0 : w2.cell? ⟨wr.heap.size, 0, none⟩ = some (.slice od la ca) := Blk.cell hA2 0
                        have b2 : w2.cell? ⟨wr.heap.size, 2, none⟩ = some (.int .u32 (qn : Int)) := Blk.cell hA2 2
                        have b3 : w2.cell? ⟨wr.heap.size, 3, none⟩ = some (.int .u64 (qt : Int)) := Blk.cell hA2 3
                        clear hT2 hA2 hK2 hb2 s0 s1 s2 a0 a3
                        go_wp2_with fail
                        go_meet
                        exact kr1_err HKW.out HTW.out (by have := HBT.out; omega) (by have := HBT.out; omega) (fun x hx => by have := HK.out.dvb x hx; omega) (fun x hx => by have := HK.out.svb x hx; omega) HB2.out ⟨rfl, rfl, rfl, Nat.le_refl _, fun _ _ => rfl⟩
                  · have HKO := Lib.hid (And.intro (Nat.le_refl 1) (Or.inl (show d < 1 by omega) : d < 1 ∨ 1 + M ≤ d))
                    have q8 : decide ((1 : Int) ≤ (d : Int)) = false := by simp; omega
                    clear k1 k2
                    as_aux_lemma =>
                      have s0 : ((wr.alloc (.cells #[.slice od la ca, .int .i64 cas, .int .u32 (qn : Int), .int .u64 (qt : Int)] 75)).alloc (.cells #[.slice none 0 0, .int .u32 0, .int .i64 0] 79)).cell? ⟨w1.heap.size, 0, none⟩ = some (.slice os ns cs) := Blk.cell HKW.out.blk 0
                      have s1 : ((wr.alloc (.cells #[.slice od la ca, .int .i64 cas, .int .u32 (qn : Int), .int .u64 (qt : Int)] 75)).alloc (.cells #[.slice none 0 0, .int .u32 0, .int .i64 0] 79)).cell? ⟨w1.heap.size, 1, none⟩ = some (.int .u32 (d : Int)) := Blk.cell HKW.out.blk 1
                      have s2 : ((wr.alloc (.cells #[.slice od la ca, .int .i64 cas, .int .u32 (qn : Int), .int .u64 (qt : Int)] 75)).alloc (.cells #[.slice none 0 0, .int .u32 0, .int .i64 0] 79)).cell? ⟨w1.heap.size, 2, none⟩ = some (.int .i64 (M : Int)) := Blk.cell HKW.out.blk 2
                      have a0 : ((wr.alloc (.cells #[.slice od la ca, .int .i64 cas, .int .u32 (qn : Int), .int .u64 (qt : Int)] 75)).alloc (.cells #[.slice none 0 0, .int .u32 0, .int .i64 0] 79)).cell? ⟨wr.heap.size, 0, none⟩ = some (.slice od la ca) := Blk.cell HAW.out 0
                      have a3 : ((wr.alloc (.cells #[.slice od la ca, .int .i64 cas, .int .u32 (qn : Int), .int .u64 (qt : Int)] 75)).alloc (.cells #[.slice none 0 0, .int .u32 0, .int .i64 0] 79)).cell? ⟨wr.heap.size, 3, none⟩ = some (.int .u64 (qt : Int)) := Blk.cell HAW.out 3
                      have HOUT := Lib.hid (ks_out HKW.out.sec HKW.out.mn HKO.out.1 HKO.out.2)
                      have C : Hid (Calls Tryd.prog 49 #[.agg #[.slice os ns cs, .int .u32 (d : Int), .int .i64 (M : Int)], .int .u32 1] ((wr.alloc (.cells #[.slice od la ca, .int .i64 cas, .int .u32 (qn : Int), .int .u64 (qt : Int)] 75)).alloc (.cells #[.slice none 0 0, .int .u32 0, .int .i64 0] 79)) fun e w' => e = .returned (.tuple #[.agg #[.slice none 0 0, .int .u32 0, .int .i64 0], .iface 146 (.int .i64 5)]) ∧ Below ((wr.alloc (.cells #[.slice od la ca, .int .i64 cas, .int .u32 (qn : Int), .int .u64 (qt : Int)] 75)).alloc (.cells #[.slice none 0 0, .int .u32 0, .int .i64 0] 79)).heap.size ((wr.alloc (.cells #[.slice od la ca, .int .i64 cas, .int .u32 (qn : Int), .int .u64 (qt : Int)] 75)).alloc (.cells #[.slice none 0 0, .int .u32 0, .int .i64 0] 79)) w') := Lib.hid (undelete_miss os ns cs d M V _ HKW.out.lens (by omega) HKW.out.verss 1 HKW.out.sec HOUT.out)
                      have ne1 : ¬ (w1.heap.size = wr.heap.size) := by have := HBT.out; omega
                      have ne2 : ¬ (wr.heap.size = w1.heap.size) := by have := HBT.out; omega
                      go_wp2_with fail
                      refine C.out.mono ?_
                      rintro e w2 ⟨rfl, hb2⟩
                      have HB2 := Lib.hid hb2
                      clear C
                      have hT2 := HTW.out.below hb2 HTW.out.lt
                      have hA2 := HAW.out.below hb2 HAW.out.lt
                      have hK2 := HKW.out.later hb2
                      have t0 : w2.cell? ⟨wr.heap.size + 1, 0, none⟩ = some (.slice none 0 0) := Blk.cell hT2 0
                      have tz0 : w2.frozen? ⟨wr.heap.size + 1, 0, none⟩ = false := Blk.free hT2 0
                      have t1 : w2.cell? ⟨wr.heap.size + 1, 1, none⟩ = some (.int .u32 0) := Blk.cell hT2 1
                      have tz1 : w2.frozen? ⟨wr.heap.size + 1, 1, none⟩ = false := Blk.free hT2 1
                      have t2 : w2.cell? ⟨wr.heap.size + 1, 2, none⟩ = some (.int .i64 0) := Blk.cell hT2 2
                      have tz2 : w2.frozen? ⟨wr.heap.size + 1, 2, none⟩ = false := Blk.free hT2 2
                      have b0 : w2.cell? ⟨wr.heap.size, 0, none⟩ = some (.slice od la ca) := Blk.cell hA2 0
                      have b2 : w2.cell? ⟨wr.heap.size, 2, none⟩ = some (.int .u32 (qn : Int)) := Blk.cell hA2 2
                      have b3 : w2.cell? ⟨wr.heap.size, 3, none⟩ = some (.int .u64 (qt : Int)) := Blk.cell hA2 3
                      clear hT2 hA2 hK2 hb2 s0 s1 s2 a0 a3
                      go_wp2_with fail
                      go_meet
                      exact kr1_err HKW.out HTW.out (by have := HBT.out; omega) (by have := HBT.out; omega) (fun x hx => by have := HK.out.dvb x hx; omega) (fun x hx => by have := HK.out.svb x hx; omega) HB2.out ⟨rfl, rfl, rfl, Nat.le_refl _, fun _ _ => rfl⟩
              · by_cases r2 : qt % 5 = 2
                · have hr : (qt : Int) % 5 = 2 := by omega
                  clear r0 r1 r2
                  by_cases k1 : 1 ≤ kk
                  · by_cases k2 : kk ≤ d
                    · by_cases k3 : d < kk + M
                      · have hb0 : b0 = true := by rw [← HB0.out]; simp; omega
                        subst hb0
                        obtain ⟨q, hq⟩ : ∃ q, kk = q + 1 := ⟨kk - 1, by omega⟩
                        have HQ := Lib.hid hq
                        have HKI := Lib.hid (And.intro k1 (And.intro k2 k3))
                        have q1 : (kk : Int) - 1 = (q : Int) := by omega
                        have q2 : (q : Int) % 64 = (q : Int) := by have := HKK.out; omega
                        have q3 : (1 : Int) ≤ (kk : Int) := by omega
                        have q4 : (d : Int) - (M : Int) < (kk : Int) := by omega
                        have q5 : max (kk : Int) 1 = (kk : Int) := by omega
                        clear k1 k3 hq
                        as_aux_lemma =>
                          have s0 : ((wr.alloc (.cells #[.slice od la ca, .int .i64 cas, .int .u32 (qn : Int), .int .u64 (qt : Int)] 75)).alloc (.cells #[.slice none 0 0, .int .u32 0, .int .i64 0] 79)).cell? ⟨w1.heap.size, 0, none⟩ = some (.slice os ns cs) := Blk.cell HKW.out.blk 0
                          have s1 : ((wr.alloc (.cells #[.slice od la ca, .int .i64 cas, .int .u32 (qn : Int), .int .u64 (qt : Int)] 75)).alloc (.cells #[.slice none 0 0, .int .u32 0, .int .i64 0] 79)).cell? ⟨w1.heap.size, 1, none⟩ = some (.int .u32 (d : Int)) := Blk.cell HKW.out.blk 1
                          have s2 : ((wr.alloc (.cells #[.slice od la ca, .int .i64 cas, .int .u32 (qn : Int), .int .u64 (qt : Int)] 75)).alloc (.cells #[.slice none 0 0, .int .u32 0, .int .i64 0] 79)).cell? ⟨w1.heap.size, 2, none⟩ = some (.int .i64 (M : Int)) := Blk.cell HKW.out.blk 2
                          have a0 : ((wr.alloc (.cells #[.slice od la ca, .int .i64 cas, .int .u32 (qn : Int), .int .u64 (qt : Int)] 75)).alloc (.cells #[.slice none 0 0, .int .u32 0, .int .i64 0] 79)).cell? ⟨wr.heap.size, 0, none⟩ = some (.slice od la ca) := Blk.cell HAW.out 0
                          have a3 : ((wr.alloc (.cells #[.slice od la ca, .int .i64 cas, .int .u32 (qn : Int), .int .u64 (qt : Int)] 75)).alloc (.cells #[.slice none 0 0, .int .u32 0, .int .i64 0] 79)).cell? ⟨wr.heap.size, 3, none⟩ = some (.int .u64 (qt : Int)) := Blk.cell HAW.out 3
                          obtain ⟨i, hi, he⟩ := ks_in HKW.out.sec HKW.out.mn HKI.out.1 HKI.out.2.1 HKI.out.2.2
                          have hnk : (V i).n = kk := he.trans (seek_pos (by have := HKI.out.1; omega))
                          have hsx := (HKW.out.km.1 i hi).1
                          rw [show (V i).n - 1 = q by have := HQ.out; omega] at hsx
                          obtain ⟨sx, hsx2⟩ : ∃ x, (V i).st = x := ⟨_, rfl⟩
                          rw [hsx2] at hsx
                          have HSX := Lib.hid hsx
                          have HSX2 := Lib.hid hsx2
                          have HI := Lib.hid hi
                          have HE := Lib.hid he
                          have HNK := Lib.hid hnk
                          have C : Hid (Calls Tryd.prog 50 #[.agg #[.slice os ns cs, .int .u32 (d : Int), .int .i64 (M : Int)], .int .u32 (kk : Int)] ((wr.alloc (.cells #[.slice od la ca, .int .i64 cas, .int .u32 (qn : Int), .int .u64 (qt : Int)] 75)).alloc (.cells #[.slice none 0 0, .int .u32 0, .int .i64 0] 79)) fun e w' => ∃ v, e = .returned (.tuple #[.agg #[v, .int .u32 (d : Int), .int .i64 (M : Int)], .nilIface]) ∧ GV w' ((wr.alloc (.cells #[.slice od la ca, .int .i64 cas, .int .u32 (qn : Int), .int .u64 (qt : Int)] 75)).alloc (.cells #[.slice none 0 0, .int .u32 0, .int .i64 0] 79)).heap.size v ns (cutV (setV V i 2) i) ∧ Below ((wr.alloc (.cells #[.slice od la ca, .int .i64 cas, .int .u32 (qn : Int), .int .u64 (qt : Int)] 75)).alloc (.cells #[.slice none 0 0, .int .u32 0, .int .i64 0] 79)).heap.size ((wr.alloc (.cells #[.slice od la ca, .int .i64 cas, .int .u32 (qn : Int), .int .u64 (qt : Int)] 75)).alloc (.cells #[.slice none 0 0, .int .u32 0, .int .i64 0] 79)) w') := Lib.hid (destroy_ok os ns cs d M V _ HKW.out.lens (by omega) HKW.out.verss kk i HKW.out.sec HI.out HE.out)
                          clear hsx hsx2 hi he hnk
                          have ne1 : ¬ (w1.heap.size = wr.heap.size) := by have := HBT.out; omega
                          have ne2 : ¬ (wr.heap.size = w1.heap.size) := by have := HBT.out; omega
                          have qlt : (q : Int) < 64 := by have := HQ.out; have := HKK.out; omega
                          have qlt0 : (0 : Int) ≤ (q : Int) := by omega
                          go_wp2_with fail
                          refine C.out.mono ?_
                          rintro e w2 ⟨vv, rfl, hG2, hb2⟩
                          obtain ⟨o2, c2v, rfl, _, _⟩ := hG2.slice
                          have HG2 := Lib.hid hG2
                          have HB2 := Lib.hid hb2
                          clear hG2 C
                          have hT2 := HTW.out.below hb2 HTW.out.lt
                          have hA2 := HAW.out.below hb2 HAW.out.lt
                          have hK2 := HKW.out.later hb2
                          have t0 : w2.cell? ⟨wr.heap.size + 1, 0, none⟩ = some (.slice none 0 0) := Blk.cell hT2 0
                          have tz0 : w2.frozen? ⟨wr.heap.size + 1, 0, none⟩ = false := Blk.free hT2 0
                          have t1 : w2.cell? ⟨wr.heap.size + 1, 1, none⟩ = some (.int .u32 0) := Blk.cell hT2 1
                          have tz1 : w2.frozen? ⟨wr.heap.size + 1, 1, none⟩ = false := Blk.free hT2 1
                          have t2 : w2.cell? ⟨wr.heap.size + 1, 2, none⟩ = some (.int .i64 0) := Blk.cell hT2 2
                          have tz2 : w2.frozen? ⟨wr.heap.size + 1, 2, none⟩ = false := Blk.free hT2 2
                          have b0 : w2.cell? ⟨wr.heap.size, 0, none⟩ = some (.slice od la ca) := Blk.cell hA2 0
                          have b2 : w2.cell? ⟨wr.heap.size, 2, none⟩ = some (.int .u32 (qn : Int)) := Blk.cell hA2 2
                          have b3 : w2.cell? ⟨wr.heap.size, 3, none⟩ = some (.int .u64 (qt : Int)) := Blk.cell hA2 3
                          have y0 : w2.cell? ⟨w1.heap.size + 1, q, none⟩ = some (.int .i64 sx) := by rw [hK2.sta.cell (by have := HQ.out; have := HKK.out; omega), HSX.out]
                          have y1 : w2.frozen? ⟨w1.heap.size + 1, q, none⟩ = false := hK2.sta.free q
                          clear hT2 hA2 hK2 hb2 s0 s1 s2 a0 a3
                          go_wp2_with fail
                          go_meet
                          exact kr1_set HKW.out HTW.out (by have := HBT.out; omega) (by have := HBT.out; omega) (fun x hx => by have := HK.out.dvb x hx; omega) HG2.out HB2.out rfl (cut_sec HKW.out.sec) (KM.cut HKW.out.km HKW.out.sec HI.out (by have := HQ.out; have := HNK.out; omega)) (by have := HQ.out; have := HKK.out; omega) HDJ.out ⟨rfl, rfl, rfl, Nat.le_refl _, fun _ _ => rfl⟩
                      · have hb0 : b0 = false := by rw [← HB0.out]; simp; omega
                        subst hb0
                        have HKO := Lib.hid (And.intro k1 (Or.inr (show kk + M ≤ d by omega) : d < kk ∨ kk + M ≤ d))
                        have q3 : (1 : Int) ≤ (kk : Int) := by omega
                        have q4 : decide ((d : Int) - (M : Int) < (kk : Int)) = false := by simp; omega
                        have q5 : max (kk : Int) 1 = (kk : Int) := by omega
                        clear k1 k3
                        as_aux_lemma =>
                          have s0 : ((wr.alloc (.cells #[.slice od la ca, .int .i64 cas, .int .u32 (qn : Int), .int .u64 (qt : Int)] 75)).alloc (.cells #[.slice none 0 0, .int .u32 0, .int .i64 0] 79)).cell? ⟨w1.heap.size, 0, none⟩ = some (.slice os ns cs) := Blk.cell HKW.out.blk 0
                          have s1 : ((wr.alloc (.cells #[.slice od la ca, .int .i64 cas, .int .u32 (qn : Int), .int .u64 (qt : Int)] 75)).alloc (.cells #[.slice none 0 0, .int .u32 0, .int .i64 0] 79)).cell? ⟨w1.heap.size, 1, none⟩ = some (.int .u32 (d : Int)) := Blk.cell HKW.out.blk 1
                          have s2 : ((wr.alloc (.cells #[.slice od la ca, .int .i64 cas, .int .u32 (qn : Int), .int .u64 (qt : Int)] 75)).alloc (.cells #[.slice none 0 0, .int .u32 0, .int .i64 0] 79)).cell? ⟨w1.heap.size, 2, none⟩ = some (.int .i64 (M : Int)) := Blk.cell HKW.out.blk 2
                          have a0 : ((wr.alloc (.cells #[.slice od la ca, .int .i64 cas, .int .u32 (qn : Int), .int .u64 (qt : Int)] 75)).alloc (.cells #[.slice none 0 0, .int .u32 0, .int .i64 0] 79)).cell? ⟨wr.heap.size, 0, none⟩ = some (.slice od la ca) := Blk.cell HAW.out 0
                          have a3 : ((wr.alloc (.cells #[.slice od la ca, .int .i64 cas, .int .u32 (qn : Int), .int .u64 (qt : Int)] 75)).alloc (.cells #[.slice none 0 0, .int .u32 0, .int .i64 0] 79)).cell? ⟨wr.heap.size, 3, none⟩ = some (.int .u64 (qt : Int)) := Blk.cell HAW.out 3
                          have HOUT := Lib.hid (ks_out HKW.out.sec HKW.out.mn HKO.out.1 HKO.out.2)
                          have C : Hid (Calls Tryd.prog 50 #[.agg #[.slice os ns cs, .int .u32 (d : Int), .int .i64 (M : Int)], .int .u32 (kk : Int)] ((wr.alloc (.cells #[.slice od la ca, .int .i64 cas, .int .u32 (qn : Int), .int .u64 (qt : Int)] 75)).alloc (.cells #[.slice none 0 0, .int .u32 0, .int .i64 0] 79)) fun e w' => e = .returned (.tuple #[.agg #[.slice none 0 0, .int .u32 0, .int .i64 0], .iface 146 (.int .i64 5)]) ∧ Below ((wr.alloc (.cells #[.slice od la ca, .int .i64 cas, .int .u32 (qn : Int), .int .u64 (qt : Int)] 75)).alloc (.cells #[.slice none 0 0, .int .u32 0, .int .i64 0] 79)).heap.size ((wr.alloc (.cells #[.slice od la ca, .int .i64 cas, .int .u32 (qn : Int), .int .u64 (qt : Int)] 75)).alloc (.cells #[.slice none 0 0, .int .u32 0, .int .i64 0] 79)) w') := Lib.hid (destroy_miss os ns cs d M V _ HKW.out.lens (by omega) HKW.out.verss kk HKW.out.sec HOUT.out)
                          have ne1 : ¬ (w1.heap.size = wr.heap.size) := by have := HBT.out; omega
                          have ne2 : ¬ (wr.heap.size = w1.heap.size) := by have := HBT.out; omega
                          go_wp2_with fail
                          refine C.out.mono ?_
                          rintro e w2 ⟨rfl, hb2⟩
                          have HB2 := Lib.hid hb2
                          clear C
                          have hT2 := HTW.out.below hb2 HTW.out.lt
                          have hA2 := HAW.out.below hb2 HAW.out.lt
                          have hK2 := HKW.out.later hb2
                          have t0 : w2.cell? ⟨wr.heap.size + 1, 0, none⟩ = some (.slice none 0 0) := Blk.cell hT2 0
                          have tz0 : w2.frozen? ⟨wr.heap.size + 1, 0, none⟩ = false := Blk.free hT2 0
                          have t1 : w2.cell? ⟨wr.heap.size + 1, 1, none⟩ = some (.int .u32 0) := Blk.cell hT2 1
                          have tz1 : w2.frozen? ⟨wr.heap.size + 1, 1, none⟩ = false := Blk.free hT2 1
                          have t2 : w2.cell? ⟨wr.heap.size + 1, 2, none⟩ = some (.int .i64 0) := Blk.cell hT2 2
                          have tz2 : w2.frozen? ⟨wr.heap.size + 1, 2, none⟩ = false := Blk.free hT2 2
                          have b0 : w2.cell? ⟨wr.heap.size, 0, none⟩ = some (.slice od la ca) := Blk.cell hA2 0
                          have b2 : w2.cell? ⟨wr.heap.size, 2, none⟩ = some (.int .u32 (qn : Int)) := Blk.cell hA2 2
                          have b3 : w2.cell? ⟨wr.heap.size, 3, none⟩ = some (.int .u64 (qt : Int)) := Blk.cell hA2 3
                          clear hT2 hA2 hK2 hb2 s0 s1 s2 a0 a3
                          go_wp2_with fail
                          go_meet
                          exact kr1_err HKW.out HTW.out (by have := HBT.out; omega) (by have := HBT.out; omega) (fun x hx => by have := HK.out.dvb x hx; omega) (fun x hx => by have := HK.out.svb x hx; omega) HB2.out ⟨rfl, rfl, rfl, Nat.le_refl _, fun _ _ => rfl⟩
                    · have hb0 : b0 = false := by rw [← HB0.out]; simp; omega
                      subst hb0
                      have HKO := Lib.hid (And.intro k1 (Or.inl (show d < kk by omega) : d < kk ∨ kk + M ≤ d))
                      have q3 : (1 : Int) ≤ (kk : Int) := by omega
                      have q4 : decide (kk ≤ d) = false := by simp; omega
                      have q5 : max (kk : Int) 1 = (kk : Int) := by omega
                      clear k1 k2
                      as_aux_lemma =>
                        have s0 : ((wr.alloc (.cells #[.slice od la ca, .int .i64 cas, .int .u32 (qn : Int), .int .u64 (qt : Int)] 75)).alloc (.cells #[.slice none 0 0, .int .u32 0, .int .i64 0] 79)).cell? ⟨w1.heap.size, 0, none⟩ = some (.slice os ns cs) := Blk.cell HKW.out.blk 0
                        have s1 : ((wr.alloc (.cells #[.slice od la ca, .int .i64 cas, .int .u32 (qn : Int), .int .u64 (qt : Int)] 75)).alloc (.cells #[.slice none 0 0, .int .u32 0, .int .i64 0] 79)).cell? ⟨w1.heap.size, 1, none⟩ = some (.int .u32 (d : Int)) := Blk.cell HKW.out.blk 1
                        have s2 : ((wr.alloc (.cells #[.slice od la ca, .int .i64 cas, .int .u32 (qn : Int), .int .u64 (qt : Int)] 75)).alloc (.cells #[.slice none 0 0, .int .u32 0, .int .i64 0] 79)).cell? ⟨w1.heap.size, 2, none⟩ = some (.int .i64 (M : Int)) := Blk.cell HKW.out.blk 2
                        have a0 : ((wr.alloc (.cells #[.slice od la ca, .int .i64 cas, .int .u32 (qn : Int), .int .u64 (qt : Int)] 75)).alloc (.cells #[.slice none 0 0, .int .u32 0, .int .i64 0] 79)).cell? ⟨wr.heap.size, 0, none⟩ = some (.slice od la ca) := Blk.cell HAW.out 0
                        have a3 : ((wr.alloc (.cells #[.slice od la ca, .int .i64 cas, .int .u32 (qn : Int), .int .u64 (qt : Int)] 75)).alloc (.cells #[.slice none 0 0, .int .u32 0, .int .i64 0] 79)).cell? ⟨wr.heap.size, 3, none⟩ = some (.int .u64 (qt : Int)) := Blk.cell HAW.out 3
                        have HOUT := Lib.hid (ks_out HKW.out.sec HKW.out.mn HKO.out.1 HKO.out.2)
                        have C : Hid (Calls Tryd.prog 50 #[.agg #[.slice os ns cs, .int .u32 (d : Int), .int .i64 (M : Int)], .int .u32 (kk : Int)] ((wr.alloc (.cells #[.slice od la ca, .int .i64 cas, .int .u32 (qn : Int), .int .u64 (qt : Int)] 75)).alloc (.cells #[.slice none 0 0, .int .u32 0, .int .i64 0] 79)) fun e w' => e = .returned (.tuple #[.agg #[.slice none 0 0, .int .u32 0, .int .i64 0], .iface 146 (.int .i64 5)]) ∧ Below ((wr.alloc (.cells #[.slice od la ca, .int .i64 cas, .int .u32 (qn : Int), .int .u64 (qt : Int)] 75)).alloc (.cells #[.slice none 0 0, .int .u32 0, .int .i64 0] 79)).heap.size ((wr.alloc (.cells #[.slice od la ca, .int .i64 cas, .int .u32 (qn : Int), .int .u64 (qt : Int)] 75)).alloc (.cells #[.slice none 0 0, .int .u32 0, .int .i64 0] 79)) w') := Lib.hid (destroy_miss os ns cs d M V _ HKW.out.lens (by omega) HKW.out.verss kk HKW.out.sec HOUT.out)
                        have ne1 : ¬ (w1.heap.size = wr.heap.size) := by have := HBT.out; omega
                        have ne2 : ¬ (wr.heap.size = w1.heap.size) := by have := HBT.out; omega
                        go_wp2_with fail
                        refine C.out.mono ?_
                        rintro e w2 ⟨rfl, hb2⟩
                        have HB2 := Lib.hid hb2
                        clear C
                        have hT2 := HTW.out.below hb2 HTW.out.lt
                        have hA2 := HAW.out.below hb2 HAW.out.lt
                        have hK2 := HKW.out.later hb2
                        have t0 : w2.cell? ⟨wr.heap.size + 1, 0, none⟩ = some (.slice none 0 0) := Blk.cell hT2 0
                        have tz0 : w2.frozen? ⟨wr.heap.size + 1, 0, none⟩ = false := Blk.free hT2 0
                        have t1 : w2.cell? ⟨wr.heap.size + 1, 1, none⟩ = some (.int .u32 0) := Blk.cell hT2 1
                        have tz1 : w2.frozen? ⟨wr.heap.size + 1, 1, none⟩ = false := Blk.free hT2 1
                        have t2 : w2.cell? ⟨wr.heap.size + 1, 2, none⟩ = some (.int .i64 0) := Blk.cell hT2 2
                        have tz2 : w2.frozen? ⟨wr.heap.size + 1, 2, none⟩ = false := Blk.free hT2 2
                        have b0 : w2.cell? ⟨wr.heap.size, 0, none⟩ = some (.slice od la ca) := Blk.cell hA2 0
                        have b2 : w2.cell? ⟨wr.heap.size, 2, none⟩ = some (.int .u32 (qn : Int)) := Blk.cell hA2 2
                        have b3 : w2.cell? ⟨wr.heap.size, 3, none⟩ = some (.int .u64 (qt : Int)) := Blk.cell hA2 3
                        clear hT2 hA2 hK2 hb2 s0 s1 s2 a0 a3
                        go_wp2_with fail
                        go_meet
                        exact kr1_err HKW.out HTW.out (by have := HBT.out; omega) (by have := HBT.out; omega) (fun x hx => by have := HK.out.dvb x hx; omega) (fun x hx => by have := HK.out.svb x hx; omega) HB2.out ⟨rfl, rfl, rfl, Nat.le_refl _, fun _ _ => rfl⟩
                  · have hb0 : b0 = false := by rw [← HB0.out]; simp; omega
                    subst hb0
                    have k0 : (kk : Int) = 0 := by omega
                    by_cases k2 : 1 ≤ d
                    · by_cases k3 : d < 1 + M
                      · have HQ := Lib.hid (show (1 : Nat) = 0 + 1 from rfl)
                        have HKI := Lib.hid (And.intro (Nat.le_refl 1) (And.intro k2 k3))
                        have q4 : (d : Int) - (M : Int) < 1 := by omega
                        have q8 : (1 : Int) ≤ (d : Int) := by omega
                        clear k1 k3
                        as_aux_lemma =>
                          have s0 : ((wr.alloc (.cells #[.slice od la ca, .int .i64 cas, .int .u32 (qn : Int), .int .u64 (qt : Int)] 75)).alloc (.cells #[.slice none 0 0, .int .u32 0, .int .i64 0] 79)).cell? ⟨w1.heap.size, 0, none⟩ = some (.slice os ns cs) := Blk.cell HKW.out.blk 0
                          have s1 : ((wr.alloc (.cells #[.slice od la ca, .int .i64 cas, .int .u32 (qn : Int), .int .u64 (qt : Int)] 75)).alloc (.cells #[.slice none 0 0, .int .u32 0, .int .i64 0] 79)).cell? ⟨w1.heap.size, 1, none⟩ = some (.int .u32 (d : Int)) := Blk.cell HKW.out.blk 1
                          have s2 : ((wr.alloc (.cells #[.slice od la ca, .int .i64 cas, .int .u32 (qn : Int), .int .u64 (qt : Int)] 75)).alloc (.cells #[.slice none 0 0, .int .u32 0, .int .i64 0] 79)).cell? ⟨w1.heap.size, 2, none⟩ = some (.int .i64 (M : Int)) := Blk.cell HKW.out.blk 2
                          have a0 : ((wr.alloc (.cells #[.slice od la ca, .int .i64 cas, .int .u32 (qn : Int), .int .u64 (qt : Int)] 75)).alloc (.cells #[.slice none 0 0, .int .u32 0, .int .i64 0] 79)).cell? ⟨wr.heap.size, 0, none⟩ = some (.slice od la ca) := Blk.cell HAW.out 0
                          have a3 : ((wr.alloc (.cells #[.slice od la ca, .int .i64 cas, .int .u32 (qn : Int), .int .u64 (qt : Int)] 75)).alloc (.cells #[.slice none 0 0, .int .u32 0, .int .i64 0] 79)).cell? ⟨wr.heap.size, 3, none⟩ = some (.int .u64 (qt : Int)) := Blk.cell HAW.out 3
                          obtain ⟨i, hi, he⟩ := ks_in HKW.out.sec HKW.out.mn HKI.out.1 HKI.out.2.1 HKI.out.2.2
                          have hnk : (V i).n = 1 := he.trans (seek_pos (by have := HKI.out.1; omega))
                          have hsx := (HKW.out.km.1 i hi).1
                          rw [show (V i).n - 1 = 0 by have := HQ.out; omega] at hsx
                          obtain ⟨sx, hsx2⟩ : ∃ x, (V i).st = x := ⟨_, rfl⟩
                          rw [hsx2] at hsx
                          have HSX := Lib.hid hsx
                          have HSX2 := Lib.hid hsx2
                          have HI := Lib.hid hi
                          have HE := Lib.hid he
                          have HNK := Lib.hid hnk
                          have C : Hid (Calls Tryd.prog 50 #[.agg #[.slice os ns cs, .int .u32 (d : Int), .int .i64 (M : Int)], .int .u32 1] ((wr.alloc (.cells #[.slice od la ca, .int .i64 cas, .int .u32 (qn : Int), .int .u64 (qt : Int)] 75)).alloc (.cells #[.slice none 0 0, .int .u32 0, .int .i64 0] 79)) fun e w' => ∃ v, e = .returned (.tuple #[.agg #[v, .int .u32 (d : Int), .int .i64 (M : Int)], .nilIface]) ∧ GV w' ((wr.alloc (.cells #[.slice od la ca, .int .i64 cas, .int .u32 (qn : Int), .int .u64 (qt : Int)] 75)).alloc (.cells #[.slice none 0 0, .int .u32 0, .int .i64 0] 79)).heap.size v ns (cutV (setV V i 2) i) ∧ Below ((wr.alloc (.cells #[.slice od la ca, .int .i64 cas, .int .u32 (qn : Int), .int .u64 (qt : Int)] 75)).alloc (.cells #[.slice none 0 0, .int .u32 0, .int .i64 0] 79)).heap.size ((wr.alloc (.cells #[.slice od la ca, .int .i64 cas, .int .u32 (qn : Int), .int .u64 (qt : Int)] 75)).alloc (.cells #[.slice none 0 0, .int .u32 0, .int .i64 0] 79)) w') := Lib.hid (destroy_ok os ns cs d M V _ HKW.out.lens (by omega) HKW.out.verss 1 i HKW.out.sec HI.out HE.out)
                          clear hsx hsx2 hi he hnk
                          have ne1 : ¬ (w1.heap.size = wr.heap.size) := by have := HBT.out; omega
                          have ne2 : ¬ (wr.heap.size = w1.heap.size) := by have := HBT.out; omega
                          have qlt : (0 : Int) < 64 := by have := HQ.out; have := HKK.out; omega
                          have qlt0 : (0 : Int) ≤ (0 : Int) := by omega
                          go_wp2_with fail
                          refine C.out.mono ?_
                          rintro e w2 ⟨vv, rfl, hG2, hb2⟩
                          obtain ⟨o2, c2v, rfl, _, _⟩ := hG2.slice
                          have HG2 := Lib.hid hG2
                          have HB2 := Lib.hid hb2
                          clear hG2 C
                          have hT2 := HTW.out.below hb2 HTW.out.lt
                          have hA2 := HAW.out.below hb2 HAW.out.lt
                          have hK2 := HKW.out.later hb2
                          have t0 : w2.cell? ⟨wr.heap.size + 1, 0, none⟩ = some (.slice none 0 0) := Blk.cell hT2 0
                          have tz0 : w2.frozen? ⟨wr.heap.size + 1, 0, none⟩ = false := Blk.free hT2 0
                          have t1 : w2.cell? ⟨wr.heap.size + 1, 1, none⟩ = some (.int .u32 0) := Blk.cell hT2 1
                          have tz1 : w2.frozen? ⟨wr.heap.size + 1, 1, none⟩ = false := Blk.free hT2 1
                          have t2 : w2.cell? ⟨wr.heap.size + 1, 2, none⟩ = some (.int .i64 0) := Blk.cell hT2 2
                          have tz2 : w2.frozen? ⟨wr.heap.size + 1, 2, none⟩ = false := Blk.free hT2 2
                          have b0 : w2.cell? ⟨wr.heap.size, 0, none⟩ = some (.slice od la ca) := Blk.cell hA2 0
                          have b2 : w2.cell? ⟨wr.heap.size, 2, none⟩ = some (.int .u32 (qn : Int)) := Blk.cell hA2 2
                          have b3 : w2.cell? ⟨wr.heap.size, 3, none⟩ = some (.int .u64 (qt : Int)) := Blk.cell hA2 3
                          have y0 : w2.cell? ⟨w1.heap.size + 1, 0, none⟩ = some (.int .i64 sx) := by rw [hK2.sta.cell (by have := HQ.out; have := HKK.out; omega), HSX.out]
                          have y1 : w2.frozen? ⟨w1.heap.size + 1, 0, none⟩ = false := hK2.sta.free 0
                          clear hT2 hA2 hK2 hb2 s0 s1 s2 a0 a3
                          go_wp2_with fail
                          go_meet
                          exact kr1_set HKW.out HTW.out (by have := HBT.out; omega) (by have := HBT.out; omega) (fun x hx => by have := HK.out.dvb x hx; omega) HG2.out HB2.out rfl (cut_sec HKW.out.sec) (KM.cut HKW.out.km HKW.out.sec HI.out (by have := HQ.out; have := HNK.out; omega)) (by have := HQ.out; have := HKK.out; omega) HDJ.out ⟨rfl, rfl, rfl, Nat.le_refl _, fun _ _ => rfl⟩
                      · have HKO := Lib.hid (And.intro (Nat.le_refl 1) (Or.inr (show 1 + M ≤ d by omega) : d < 1 ∨ 1 + M ≤ d))
                        have q4 : decide ((d : Int) - (M : Int) < 1) = false := by simp; omega
                        have q8 : (1 : Int) ≤ (d : Int) := by omega
                        clear k1 k3
                        as_aux_lemma =>
                          have s0 : ((wr.alloc (.cells #[.slice od la ca, .int .i64 cas, .int .u32 (qn : Int), .int .u64 (qt : Int)] 75)).alloc (.cells #[.slice none 0 0, .int .u32 0, .int .i64 0] 79)).cell? ⟨w1.heap.size, 0, none⟩ = some (.slice os ns cs) := Blk.cell HKW.out.blk 0
                          have s1 : ((wr.alloc (.cells #[.slice od la ca, .int .i64 cas, .int .u32 (qn : Int), .int .u64 (qt : Int)] 75)).alloc (.cells #[.slice none 0 0, .int .u32 0, .int .i64 0] 79)).cell? ⟨w1.heap.size, 1, none⟩ = some (.int .u32 (d : Int)) := Blk.cell HKW.out.blk 1
                          have s2 : ((wr.alloc (.cells #[.slice od la ca, .int .i64 cas, .int .u32 (qn : Int), .int .u64 (qt : Int)] 75)).alloc (.cells #[.slice none 0 0, .int .u32 0, .int .i64 0] 79)).cell? ⟨w1.heap.size, 2, none⟩ = some (.int .i64 (M : Int)) := Blk.cell HKW.out.blk 2
                          have a0 : ((wr.alloc (.cells #[.slice od la ca, .int .i64 cas, .int .u32 (qn : Int), .int .u64 (qt : Int)] 75)).alloc (.cells #[.slice none 0 0, .int .u32 0, .int .i64 0] 79)).cell? ⟨wr.heap.size, 0, none⟩ = some (.slice od la ca) := Blk.cell HAW.out 0
                          have a3 : ((wr.alloc (.cells #[.slice od la ca, .int .i64 cas, .int .u32 (qn : Int), .int .u64 (qt : Int)] 75)).alloc (.cells #[.slice none 0 0, .int .u32 0, .int .i64 0] 79)).cell? ⟨wr.heap.size, 3, none⟩ = some (.int .u64 (qt : Int)) := Blk.cell HAW.out 3
                          have HOUT := Lib.hid (ks_out HKW.out.sec HKW.out.mn HKO.out.1 HKO.out.2)
                          have C : Hid (Calls Tryd.prog 50 #[.agg #[.slice os ns cs, .int .u32 (d : Int), .int .i64 (M : Int)], .int .u32 1] ((wr.alloc (.cells #[.slice od la ca, .int .i64 cas, .int .u32 (qn : Int), .int .u64 (qt : Int)] 75)).alloc (.cells #[.slice none 0 0, .int .u32 0, .int .i64 0] 79)) fun e w' => e = .returned (.tuple #[.agg #[.slice none 0 0, .int .u32 0, .int .i64 0], .iface 146 (.int .i64 5)]) ∧ Below ((wr.alloc (.cells #[.slice od la ca, .int .i64 cas, .int .u32 (qn : Int), .int .u64 (qt : Int)] 75)).alloc (.cells #[.slice none 0 0, .int .u32 0, .int .i64 0] 79)).heap.size ((wr.alloc (.cells #[.slice od la ca, .int .i64 cas, .int .u32 (qn : Int), .int .u64 (qt : Int)] 75)).alloc (.cells #[.slice none 0 0, .int .u32 0, .int .i64 0] 79)) w') := Lib.hid (destroy_miss os ns cs d M V _ HKW.out.lens (by omega) HKW.out.verss 1 HKW.out.sec HOUT.out)
                          have ne1 : ¬ (w1.heap.size = wr.heap.size) := by have := HBT.out; omega
                          have ne2 : ¬ (wr.heap.size = w1.heap.size) := by have := HBT.out; omega
                          go_wp2_with fail
                          refine C.out.mono ?_
                          rintro e w2 ⟨rfl, hb2⟩
                          have HB2 := Lib.hid hb2
                          clear C
                          have hT2 := HTW.out.below hb2 HTW.out.lt
                          have hA2 := HAW.out.below hb2 HAW.out.lt
                          have hK2 := HKW.out.later hb2
                          have t0 : w2.cell? ⟨wr.heap.size + 1, 0, none⟩ = some (.slice none 0 0) := Blk.cell hT2 0
                          have tz0 : w2.frozen? ⟨wr.heap.size + 1, 0, none⟩ = false := Blk.free hT2 0
                          have t1 : w2.cell? ⟨wr.heap.size + 1, 1, none⟩ = some (.int .u32 0) := Blk.cell hT2 1
                          have tz1 : w2.frozen? ⟨wr.heap.size + 1, 1, none⟩ = false := Blk.free hT2 1
                          have t2 : w2.cell? ⟨wr.heap.size + 1, 2, none⟩ = some (.int .i64 0) := Blk.cell hT2 2
                          have tz2 : w2.frozen? ⟨wr.heap.size + 1, 2, none⟩ = false := Blk.free hT2 2
                          have b0 : w2.cell? ⟨wr.heap.size, 0, none⟩ = some (.slice od la ca) := Blk.cell hA2 0
                          have b2 : w2.cell? ⟨wr.heap.size, 2, none⟩ = some (.int .u32 (qn : Int)) := Blk.cell hA2 2
                          have b3 : w2.cell? ⟨wr.heap.size, 3, none⟩ = some (.int .u64 (qt : Int)) := Blk.cell hA2 3
                          clear hT2 hA2 hK2 hb2 s0 s1 s2 a0 a3
                          go_wp2_with fail
                          go_meet
                          exact kr1_err HKW.out HTW.out (by have := HBT.out; omega) (by have := HBT.out; omega) (fun x hx => by have := HK.out.dvb x hx; omega) (fun x hx => by have := HK.out.svb x hx; omega) HB2.out ⟨rfl, rfl, rfl, Nat.le_refl _, fun _ _ => rfl⟩
                    · have HKO := Lib.hid (And.intro (Nat.le_refl 1) (Or.inl (show d < 1 by omega) : d < 1 ∨ 1 + M ≤ d))
                      have q8 : decide ((1 : Int) ≤ (d : Int)) = false := by simp; omega
                      clear k1 k2
                      as_aux_lemma =>
                        have s0 : ((wr.alloc (.cells #[.slice od la ca, .int .i64 cas, .int .u32 (qn : Int), .int .u64 (qt : Int)] 75)).alloc (.cells #[.slice none 0 0, .int .u32 0, .int .i64 0] 79)).cell? ⟨w1.heap.size, 0, none⟩ = some (.slice os ns cs) := Blk.cell HKW.out.blk 0
                        have s1 : ((wr.alloc (.cells #[.slice od la ca, .int .i64 cas, .int .u32 (qn : Int), .int .u64 (qt : Int)] 75)).alloc (.cells #[.slice none 0 0, .int .u32 0, .int .i64 0] 79)).cell? ⟨w1.heap.size, 1, none⟩ = some (.int .u32 (d : Int)) := Blk.cell HKW.out.blk 1
                        have s2 : ((wr.alloc (.cells #[.slice od la ca, .int .i64 cas, .int .u32 (qn : Int), .int .u64 (qt : Int)] 75)).alloc (.cells #[.slice none 0 0, .int .u32 0, .int .i64 0] 79)).cell? ⟨w1.heap.size, 2, none⟩ = some (.int .i64 (M : Int)) := Blk.cell HKW.out.blk 2
                        have a0 : ((wr.alloc (.cells #[.slice od la ca, .int .i64 cas, .int .u32 (qn : Int), .int .u64 (qt : Int)] 75)).alloc (.cells #[.slice none 0 0, .int .u32 0, .int .i64 0] 79)).cell? ⟨wr.heap.size, 0, none⟩ = some (.slice od la ca) := Blk.cell HAW.out 0
                        have a3 : ((wr.alloc (.cells #[.slice od la ca, .int .i64 cas, .int .u32 (qn : Int), .int .u64 (qt : Int)] 75)).alloc (.cells #[.slice none 0 0, .int .u32 0, .int .i64 0] 79)).cell? ⟨wr.heap.size, 3, none⟩ = some (.int .u64 (qt : Int)) := Blk.cell HAW.out 3
                        have HOUT := Lib.hid (ks_out HKW.out.sec HKW.out.mn HKO.out.1 HKO.out.2)
                        have C : Hid (Calls Tryd.prog 50 #[.agg #[.slice os ns cs, .int .u32 (d : Int), .int .i64 (M : Int)], .int .u32 1] ((wr.alloc (.cells #[.slice od la ca, .int .i64 cas, .int .u32 (qn : Int), .int .u64 (qt : Int)] 75)).alloc (.cells #[.slice none 0 0, .int .u32 0, .int .i64 0] 79)) fun e w' => e = .returned (.tuple #[.agg #[.slice none 0 0, .int .u32 0, .int .i64 0], .iface 146 (.int .i64 5)]) ∧ Below ((wr.alloc (.cells #[.slice od la ca, .int .i64 cas, .int .u32 (qn : Int), .int .u64 (qt : Int)] 75)).alloc (.cells #[.slice none 0 0, .int .u32 0, .int .i64 0] 79)).heap.size ((wr.alloc (.cells #[.slice od la ca, .int .i64 cas, .int .u32 (qn : Int), .int .u64 (qt : Int)] 75)).alloc (.cells #[.slice none 0 0, .int .u32 0, .int .i64 0] 79)) w') := Lib.hid (destroy_miss os ns cs d M V _ HKW.out.lens (by omega) HKW.out.verss 1 HKW.out.sec HOUT.out)
                        have ne1 : ¬ (w1.heap.size = wr.heap.size) := by have := HBT.out; omega
                        have ne2 : ¬ (wr.heap.size = w1.heap.size) := by have := HBT.out; omega
                        go_wp2_with fail
                        refine C.out.mono ?_
                        rintro e w2 ⟨rfl, hb2⟩
                        have HB2 := Lib.hid hb2
                        clear C
                        have hT2 := HTW.out.below hb2 HTW.out.lt
                        have hA2 := HAW.out.below hb2 HAW.out.lt
                        have hK2 := HKW.out.later hb2
                        have t0 : w2.cell? ⟨wr.heap.size + 1, 0, none⟩ = some (.slice none 0 0) := Blk.cell hT2 0
                        have tz0 : w2.frozen? ⟨wr.heap.size + 1, 0, none⟩ = false := Blk.free hT2 0
                        have t1 : w2.cell? ⟨wr.heap.size + 1, 1, none⟩ = some (.int .u32 0) := Blk.cell hT2 1
                        have tz1 : w2.frozen? ⟨wr.heap.size + 1, 1, none⟩ = false := Blk.free hT2 1
                        have t2 : w2.cell? ⟨wr.heap.size + 1, 2, none⟩ = some (.int .i64 0) := Blk.cell hT2 2
                        have tz2 : w2.frozen? ⟨wr.heap.size + 1, 2, none⟩ = false := Blk.free hT2 2
                        have b0 : w2.cell? ⟨wr.heap.size, 0, none⟩ = some (.slice od la ca) := Blk.cell hA2 0
                        have b2 : w2.cell? ⟨wr.heap.size, 2, none⟩ = some (.int .u32 (qn : Int)) := Blk.cell hA2 2
                        have b3 : w2.cell? ⟨wr.heap.size, 3, none⟩ = some (.int .u64 (qt : Int)) := Blk.cell hA2 3
                        clear hT2 hA2 hK2 hb2 s0 s1 s2 a0 a3
                        go_wp2_with fail
                        go_meet
                        exact kr1_err HKW.out HTW.out (by have := HBT.out; omega) (by have := HBT.out; omega) (fun x hx => by have := HK.out.dvb x hx; omega) (fun x hx => by have := HK.out.svb x hx; omega) HB2.out ⟨rfl, rfl, rfl, Nat.le_refl _, fun _ _ => rfl⟩
                · as_aux_lemma =>
                    obtain ⟨r, hr0⟩ : ∃ r, qt % 5 = r := ⟨_, rfl⟩
                    have hr : (qt : Int) % 5 = (r : Int) := by omega
                    have hr1 : ((r : Int) == 0) = false := by rw [beq_eq_false_iff_ne]; omega
                    have hr2 : ((r : Int) == 1) = false := by rw [beq_eq_false_iff_ne]; omega
                    have hr3 : ((r : Int) == 2) = false := by rw [beq_eq_false_iff_ne]; omega
                    clear r0 r1 r2 hr0
                    have s0 : ((wr.alloc (.cells #[.slice od la ca, .int .i64 cas, .int .u32 (qn : Int), .int .u64 (qt : Int)] 75)).alloc (.cells #[.slice none 0 0, .int .u32 0, .int .i64 0] 79)).cell? ⟨w1.heap.size, 0, none⟩ = some (.slice os ns cs) := Blk.cell HKW.out.blk 0
                    have s1 : ((wr.alloc (.cells #[.slice od la ca, .int .i64 cas, .int .u32 (qn : Int), .int .u64 (qt : Int)] 75)).alloc (.cells #[.slice none 0 0, .int .u32 0, .int .i64 0] 79)).cell? ⟨w1.heap.size, 1, none⟩ = some (.int .u32 (d : Int)) := Blk.cell HKW.out.blk 1
                    have s2 : ((wr.alloc (.cells #[.slice od la ca, .int .i64 cas, .int .u32 (qn : Int), .int .u64 (qt : Int)] 75)).alloc (.cells #[.slice none 0 0, .int .u32 0, .int .i64 0] 79)).cell? ⟨w1.heap.size, 2, none⟩ = some (.int .i64 (M : Int)) := Blk.cell HKW.out.blk 2
                    have a0 : ((wr.alloc (.cells #[.slice od la ca, .int .i64 cas, .int .u32 (qn : Int), .int .u64 (qt : Int)] 75)).alloc (.cells #[.slice none 0 0, .int .u32 0, .int .i64 0] 79)).cell? ⟨wr.heap.size, 0, none⟩ = some (.slice od la ca) := Blk.cell HAW.out 0
                    have a3 : ((wr.alloc (.cells #[.slice od la ca, .int .i64 cas, .int .u32 (qn : Int), .int .u64 (qt : Int)] 75)).alloc (.cells #[.slice none 0 0, .int .u32 0, .int .i64 0] 79)).cell? ⟨wr.heap.size, 3, none⟩ = some (.int .u64 (qt : Int)) := Blk.cell HAW.out 3
                    obtain ⟨n2, hn2⟩ : ∃ x, putN ns (M : Int) = x := ⟨_, rfl⟩
                    obtain ⟨V2, hV2⟩ : ∃ U, putV V (fromN ns (M : Int)) (putN ns (M : Int) - 1) ⟨d + 1, la, fa, qt, 0⟩ = U := ⟨_, rfl⟩
                    obtain ⟨str, hstr⟩ : ∃ s, strF la fa = s := ⟨_, rfl⟩
                    have hC := put_ok os ns cs d (M : Int) V ((wr.alloc (.cells #[.slice od la ca, .int .i64 cas, .int .u32 (qn : Int), .int .u64 (qt : Int)] 75)).alloc (.cells #[.slice none 0 0, .int .u32 0, .int .i64 0] 79)) HKW.out.lens (by omega) HKW.out.verss HCS.out od la ca fa (d : Int) qt HKW.out.sec HLA.out (.inr rfl) HBW.out HNo.out
                    have hS2 := put_sec (dl := la) (df := fa) (now := qt) HKW.out.sec HLA.out
                    have hK2 := KM.put (dl := la) (df := fa) (now := qt) HKW.out.km HKW.out.sec
                    have hM2 := put_min HKW.out.mn
                    have hcv0 := fun (w : World) (h : Bytes w od la fa) => conv_any (cp := ca) h
                    rw [hV2, hn2] at hC hS2 hK2
                    rw [hn2] at hM2
                    rw [hstr] at hK2 hcv0
                    obtain ⟨d1, hd1⟩ : ∃ x, d + 1 = x := ⟨_, rfl⟩
                    rw [hd1] at hC
                    have HC := Lib.hid hC
                    have HS2 := Lib.hid hS2
                    have HK2 := Lib.hid hK2
                    have HM2 := Lib.hid hM2
                    have HCV := Lib.hid hcv0
                    have HD1 := Lib.hid hd1
                    clear hC hS2 hK2 hM2 hcv0 hd1 hn2 hV2 hstr
                    have ne1 : ¬ (w1.heap.size = wr.heap.size) := by have := HBT.out; omega
                    have ne2 : ¬ (wr.heap.size = w1.heap.size) := by have := HBT.out; omega
                    go_wp2_with fail
                    refine HC.out.mono ?_
                    rintro e w2 ⟨vv, rfl, hG2, hb2⟩
                    obtain ⟨o2, c2v, rfl, _, _⟩ := hG2.slice
                    have hP := KS.putted (dl := 0) (now := 0) (df := fun _ => 0) HKW.out HTW.out (by have := HBT.out; omega) (by have := HBT.out; omega) (fun e => by have := HK.out.dvb _ e; omega) hG2 hb2 HS2.out HM2.out HK2.out
                    rw [HD1.out] at hP
                    obtain ⟨base, hbs, hDS, hfin⟩ := hP
                    have HDS := Lib.hid hDS
                    have HFIN := Lib.hid hfin
                    have HBS := Lib.hid hbs
                    have hT2 := HTW.out.below hb2 HTW.out.lt
                    have hA2 := HAW.out.below hb2 HAW.out.lt
                    have t0 : w2.cell? ⟨wr.heap.size + 1, 0, none⟩ = some (.slice none 0 0) := Blk.cell hT2 0
                    have tz0 : w2.frozen? ⟨wr.heap.size + 1, 0, none⟩ = false := Blk.free hT2 0
                    have t1 : w2.cell? ⟨wr.heap.size + 1, 1, none⟩ = some (.int .u32 0) := Blk.cell hT2 1
                    have tz1 : w2.frozen? ⟨wr.heap.size + 1, 1, none⟩ = false := Blk.free hT2 1
                    have t2 : w2.cell? ⟨wr.heap.size + 1, 2, none⟩ = some (.int .i64 0) := Blk.cell hT2 2
                    have tz2 : w2.frozen? ⟨wr.heap.size + 1, 2, none⟩ = false := Blk.free hT2 2
                    have b0 : w2.cell? ⟨wr.heap.size, 0, none⟩ = some (.slice od la ca) := Blk.cell hA2 0
                    have b2 : w2.cell? ⟨wr.heap.size, 2, none⟩ = some (.int .u32 (qn : Int)) := Blk.cell hA2 2
                    have b3 : w2.cell? ⟨wr.heap.size, 3, none⟩ = some (.int .u64 (qt : Int)) := Blk.cell hA2 3
                    have hcv : (convert 31 9 (.slice od la ca)).run Tryd.prog (((w2.setCell ⟨wr.heap.size + 1, 0, none⟩ (.slice o2 n2 c2v)).setCell ⟨wr.heap.size + 1, 1, none⟩ (.int .u32 (d1 : Int))).setCell ⟨wr.heap.size + 1, 2, none⟩ (.int .i64 (M : Int))) = .ok (.string str) (((w2.setCell ⟨wr.heap.size + 1, 0, none⟩ (.slice o2 n2 c2v)).setCell ⟨wr.heap.size + 1, 1, none⟩ (.int .u32 (d1 : Int))).setCell ⟨wr.heap.size + 1, 2, none⟩ (.int .i64 (M : Int))) := HCV.out _ ((HBW.out.later hb2).set3 hT2)
                    have HNW : Hid (∀ (j : Nat) (u : Value), [Value.string str][j]? = some u → ((((w2.setCell ⟨wr.heap.size + 1, 0, none⟩ (.slice o2 n2 c2v)).setCell ⟨wr.heap.size + 1, 1, none⟩ (.int .u32 (d1 : Int))).setCell ⟨wr.heap.size + 1, 2, none⟩ (.int .i64 (M : Int))).alloc (.cells #[.string str] 9)).cell? ((⟨w2.heap.size, 0, none⟩ : Addr).add j) = some u) := Lib.hid (by
                      have h := cell_one_new (((w2.setCell ⟨wr.heap.size + 1, 0, none⟩ (.slice o2 n2 c2v)).setCell ⟨wr.heap.size + 1, 1, none⟩ (.int .u32 (d1 : Int))).setCell ⟨wr.heap.size + 1, 2, none⟩ (.int .i64 (M : Int))) (.string str) 9
                      rw [show (((w2.setCell ⟨wr.heap.size + 1, 0, none⟩ (.slice o2 n2 c2v)).setCell ⟨wr.heap.size + 1, 1, none⟩ (.int .u32 (d1 : Int))).setCell ⟨wr.heap.size + 1, 2, none⟩ (.int .i64 (M : Int))).heap.size = w2.heap.size from set3_size _ _ _ _ _] at h
                      exact h)
                    clear hT2 hA2 hG2 hb2 hDS hfin hbs HC s0 s1 s2 a0 a3
                    go_wp2_with (at_builtin; refine wpList_appS rfl _ _ rfl base (.slice o8 d cap8) d D str rfl HDS.out ⟨w2.heap.size, 0, none⟩ 1 rfl HNW.out (by omega) HBS.out ?_; intro dv3 w3 hD3 hg3 hat3)
                    go_meet
                    rw [HD1.out] at hD3
                    have hf := HFIN.out dv3 w3 hD3 hg3 hat3
                    exact .inl ⟨rfl, d1, n2, _, _, _, V2, by have := HD1.out; have := HDJ.out; omega, hf.1, hf.2.1, hf.2.2⟩
          case rest =>
            obtain ⟨bb, hbb⟩ : ∃ bb : Bool, (bb = true ∧ u15 = .nilIface) ∨ (bb = false ∧ ∃ k : Int, u15 = .iface 146 (.int .i64 k)) := by
              rcases hcut with ⟨e, _⟩ | ⟨⟨k, e⟩, _⟩
              · exact ⟨true, .inl ⟨rfl, e⟩⟩
              · exact ⟨false, .inr ⟨rfl, k, e⟩⟩
            have HBB := Lib.hid hbb
            have HCUT := Lib.hid hcut
            clear hbb hcut
            obtain ⟨wo, rfl⟩ : ∃ wo : World, wo = wc := ⟨_, rfl⟩
            go_upto_region 52 with fail
            go_cut [214] from 213 to 214 (fun s wx => s = .bool bb ∧ wx = wo)
            case first =>
              rcases HBB.out with ⟨rfl, rfl⟩ | ⟨rfl, k, rfl⟩
              · go_wp2_with fail
                go_meet
                exact ⟨rfl, rfl⟩
              · go_wp2_with fail
                go_meet
                exact ⟨rfl, rfl⟩
            case rest =>
              obtain ⟨rfl, rfl⟩ := hcut
              go_upto_if 214 with fail
              go_cut [8] from 215 to 215 (KR2 w (w1.heap.size) (w1.heap.size + 1) M j)
              case first =>
                rcases HBB.out with ⟨rfl, e15⟩ | ⟨rfl, k, e15⟩
                · rcases HCUT.out with ⟨e0, d2, n2, D2, st2, sv2, V2, hd2, hK2, hB2, hne2⟩ | ⟨⟨k, e⟩, _⟩
                  · have HE15 := Lib.hid e15
                    clear e15 e0
                    obtain ⟨o2, c2, e, _, _⟩ := hK2.vers
                    subst e
                    have t0 : wc.cell? ⟨wr.heap.size + 1, 0, none⟩ = some (.slice o2 n2 c2) := Blk.cell hK2.blk 0
                    have t1 : wc.cell? ⟨wr.heap.size + 1, 1, none⟩ = some (.int .u32 (d2 : Int)) := Blk.cell hK2.blk 1
                    have t2 : wc.cell? ⟨wr.heap.size + 1, 2, none⟩ = some (.int .i64 (M : Int)) := Blk.cell hK2.blk 2
                    have s0 : wc.cell? ⟨w1.heap.size, 0, none⟩ = some (.slice os ns cs) := Blk.cell hB2 0
                    have sz0 : wc.frozen? ⟨w1.heap.size, 0, none⟩ = false := Blk.free hB2 0
                    have s1 : wc.cell? ⟨w1.heap.size, 1, none⟩ = some (.int .u32 (d : Int)) := Blk.cell hB2 1
                    have sz1 : wc.frozen? ⟨w1.heap.size, 1, none⟩ = false := Blk.free hB2 1
                    have s2 : wc.cell? ⟨w1.heap.size, 2, none⟩ = some (.int .i64 (M : Int)) := Blk.cell hB2 2
                    have sz2 : wc.frozen? ⟨w1.heap.size, 2, none⟩ = false := Blk.free hB2 2
                    have HK2 := Lib.hid hK2
                    have HB2 := Lib.hid hB2
                    clear hK2 hB2 HCUT
                    have ne1 : ¬ (w1.heap.size = wr.heap.size) := by have := HBT.out; omega
                    have ne2 : ¬ (wr.heap.size = w1.heap.size) := by have := HBT.out; omega
                    go_wp2_with fail
                    go_meet
                    exact ⟨d2, n2, D2, st2, _, V2, hd2, HK2.out.move HB2.out (by have := HBT.out; omega) hne2 HK.out.lo.1 (by omega)⟩
                  · rw [e15] at e; cases e
                · rcases HCUT.out with ⟨e, _⟩ | ⟨_, e8, hK2⟩
                  · rw [e15] at e; cases e
                  · have HK2 := Lib.hid hK2
                    have HE8 := Lib.hid e8
                    clear hK2 HCUT e15 e8
                    go_wp2_with fail
                    go_meet
                    rw [HE8.out]
                    exact ⟨d, ns, D, st, _, V, by have := HDJ.out; omega, HK2.out⟩
              case rest =>
                obtain ⟨d2, n2, D2, st2, sv2, V2, hd2, hK2⟩ := hcut
                obtain ⟨g0, hg0⟩ : ∃ g : Nat, g = gk := ⟨_, rfl⟩
                obtain ⟨o9, cap9, e9⟩ := DS.slice hK2.ds.choose_spec
                subst e9
                obtain ⟨o2, c2, e, _, _⟩ := hK2.vers
                subst e
                have HKC := Lib.hid hK2
                have HD2 := Lib.hid hd2
                have HG0 := Lib.hid hg0
                clear hK2 hd2 hg0
                obtain ⟨wp, hwp⟩ : ∃ wp : World, wp = wc := ⟨_, rfl⟩
                have HWP := Lib.hid hwp
                clear hwp
                go_wp2_with fail
                go_loopg [16] (d2 + 1) (fun gk2 m wq => ∃ q : Nat, m = .int .i64 (q : Int) ∧ 1 ≤ q ∧ gk2 + q = d2 + 2 ∧ KS w (w1.heap.size) (w1.heap.size + 1) M d2 (.slice o9 d2 cap9) D2 st2 n2 (.slice o2 n2 c2) V2 wq)
                case atStart => exact ⟨1, rfl, Nat.le_refl _, by omega, HKC.out⟩
                case round =>
                  obtain ⟨q, rfl, hq1, hgq, hKq⟩ := hrel
                  have HKQ := Lib.hid hKq
                  have HGQ := Lib.hid hgq
                  clear hKq hgq
                  have d41 : (d2 : Int) ≤ 40 := by have := HD2.out; omega
                  by_cases hq2 : q ≤ d2
                  · obtain ⟨p, hp⟩ : ∃ p, q = p + 1 := ⟨q - 1, by omega⟩
                    have HP := Lib.hid hp
                    have HQ1 := Lib.hid hq1
                    have HQ2 := Lib.hid hq2
                    have s0 : wr.cell? ⟨w1.heap.size, 0, none⟩ = some (.slice o2 n2 c2) := Blk.cell HKQ.out.blk 0
                    have s1 : wr.cell? ⟨w1.heap.size, 1, none⟩ = some (.int .u32 (d2 : Int)) := Blk.cell HKQ.out.blk 1
                    have s2 : wr.cell? ⟨w1.heap.size, 2, none⟩ = some (.int .i64 (M : Int)) := Blk.cell HKQ.out.blk 2
                    have p1 : (q : Int) - 1 = (p : Int) := by omega
                    have p2 : (p : Int) % 64 = (p : Int) := by omega
                    have p3 : (q : Int) ≤ 40 := by omega
                    have p4 : (1 : Int) ≤ (q : Int) := by omega
                    have p5 : (p : Int) < (d2 : Int) := by omega
                    have plt : (p : Int) < 64 := by omega
                    obtain ⟨gr, capr, er, hstr⟩ := HKQ.out.ds.choose_spec.get p (by omega)
                    have y0 := HKQ.out.sta.cell (show p < 64 by omega)
                    obtain ⟨sx, hsx⟩ : ∃ x, st2 p = x := ⟨_, rfl⟩
                    rw [hsx] at y0
                    have HSX := Lib.hid hsx
                    clear hsx hp
                    obtain ⟨str, hs0⟩ : ∃ s, D2 p = s := ⟨_, rfl⟩
                    rw [hs0] at hstr
                    have HS0 := Lib.hid hs0
                    clear hs0
                    obtain ⟨rfl, rfl⟩ : o9 = some ⟨gr, 0, none⟩ ∧ cap9 = capr := by cases er; exact ⟨rfl, rfl⟩
                    clear er
                    by_cases hp3 : d2 < q + M
                    · obtain ⟨i, hi, he⟩ := ks_in HKQ.out.sec HKQ.out.mn hq1 hq2 hp3
                      have hnk : (V2 i).n = q := he.trans (seek_pos (by omega))
                      have hkm := HKQ.out.km.1 i hi
                      rw [show (V2 i).n - 1 = p by have := HP.out; omega, HSX.out] at hkm
                      have p6 : (d2 : Int) - (M : Int) < (q : Int) := by omega
                      by_cases hs2 : sx = 0
                      · as_aux_lemma =>
                          subst hs2
                          have hkm1 := hkm.1.symm
                          have hkm2 := hkm.2 (by rw [hkm1]; decide)
                          rw [HS0.out] at hkm2
                          have hC := get_ok o2 n2 c2 d2 M V2 wr HKQ.out.lens (by omega) HKQ.out.verss q i HKQ.out.sec hi he hkm1
                          rw [hnk] at hC
                          obtain ⟨ln, hln⟩ : ∃ x, (V2 i).len = x := ⟨_, rfl⟩
                          obtain ⟨ff, hff⟩ : ∃ x, (V2 i).f = x := ⟨_, rfl⟩
                          obtain ⟨tt, htt⟩ : ∃ x, (V2 i).t = x := ⟨_, rfl⟩
                          rw [hln, hff] at hC hkm2
                          rw [htt] at hC
                          have C := Lib.hid hC
                          have HST := Lib.hid hkm2
                          clear hC hkm hkm1 hkm2 hln hff htt hi he hnk hq1 hq2 hp3
                          go_wp2_with fail
                          refine C.out.mono ?_
                          rintro e w2 ⟨ov, cv, rfl, hBv, _, hb2⟩
                          have y2 : w2.cell? ⟨w1.heap.size + 1, p, none⟩ = some (.int .i64 0) := cell_below hb2 y0
                          have y3 : w2.cell? ⟨gr, p, none⟩ = some (.string str) := cell_below hb2 hstr
                          have hcv := conv_any (cp := cv) (hBv.alloc (.cells #[.int .u32 (q : Int), .slice ov ln cv, .int .u64 (tt : Int), .int .i64 0] 86))
                          rw [HST.out] at hcv
                          have HCV : Hid (∀ w, Bytes w ov ln ff → (convert 31 9 (.slice ov ln cv)).run Tryd.prog w = .ok (.string str) w) := Lib.hid (fun w h => by have := conv_any (cp := cv) h; rw [HST.out] at this; exact this)
                          have HBv : Hid (Bytes (w2.alloc (.cells #[.int .u32 (q : Int), .slice ov ln cv, .int .u64 (tt : Int), .int .i64 0] 86)) ov ln ff) := Lib.hid (hBv.alloc _)
                          have hKn := (HKQ.out.later hb2).later ((Below.refl _ _).alloc (Nat.le_refl _) (.cells #[.int .u32 (q : Int), .slice ov ln cv, .int .u64 (tt : Int), .int .i64 0] 86))
                          have HKN := Lib.hid hKn
                          have l2 : w1.heap.size + 1 < w2.heap.size := (HKQ.out.later hb2).sta.lt
                          have l3 : gr < w2.heap.size := by have := HKQ.out.dvb gr rfl; have := hb2.size; omega
                          have yA : (w2.alloc (.cells #[.int .u32 (q : Int), .slice ov ln cv, .int .u64 (tt : Int), .int .i64 0] 86)).cell? ⟨w1.heap.size + 1, p, none⟩ = some (.int .i64 0) := cell_below ((Below.refl _ _).alloc (Nat.le_refl _) _) y2
                          have yB : (w2.alloc (.cells #[.int .u32 (q : Int), .slice ov ln cv, .int .u64 (tt : Int), .int .i64 0] 86)).cell? ⟨gr, p, none⟩ = some (.string str) := cell_below ((Below.refl _ _).alloc (Nat.le_refl _) _) y3
                          have v0 : (w2.alloc (.cells #[.int .u32 (q : Int), .slice ov ln cv, .int .u64 (tt : Int), .int .i64 0] 86)).cell? ⟨w2.heap.size, 0, none⟩ = some (.int .u32 (q : Int)) := cell_new30 rfl
                          have v1 : (w2.alloc (.cells #[.int .u32 (q : Int), .slice ov ln cv, .int .u64 (tt : Int), .int .i64 0] 86)).cell? ⟨w2.heap.size, 1, none⟩ = some (.slice ov ln cv) := cell_new30 rfl
                          clear hKn hb2 y0 hstr hBv s0 s1 s2 C
                          go_wp2_with fail
                          have p7 : IntKind.i64.wrap ((q : Int) - 1) = (p : Int) := by rw [IntWalk.i64_in _ (by omega)]; omega
                          have p8 : IntKind.i64.wrap (p : Int) = (p : Int) := IntWalk.i64_in _ (by omega)
                          have p9 : IntKind.i64.wrap (q : Int) = (q : Int) := IntWalk.i64_in _ (by omega)
                          refine wp_region_held_drew (S := (fun w' => (w'.cell? ⟨w2.heap.size, 0, none⟩ = some (.int .u32 (q : Int)) ∧ w'.cell? ⟨w2.heap.size, 1, none⟩ = some (.slice ov ln cv) ∧ w'.cell? ⟨gr, p, none⟩ = some (.string str)) ∧ (convert 31 9 (.slice ov ln cv)).run Tryd.prog w' = .ok (.string str) w')) (by kernel_rfl) ?_ (fun hHeld => ?_)
                          · (try dsimp only)
                            (first | exact ⟨⟨v0, v1, yB⟩, HCV.out _ HBv.out⟩ | go_keep)
                          refine wpAnyH_take (i := 0) (oi := { dst := some 243, op := Go.Op.move (Go.Operand.tmp 18), type := 26, pos := "law.go:201", after := #[], guard := none }) (v := ?_) rfl (by kernel_rfl) (by kernel_rfl) (by kernel_rfl) (fun _ _ _ h => h) (Or.inl ⟨by rfl, ?_⟩) (by assumption) ?_
                          rotate_left
                          · intro w hSw
                            (try dsimp only at hSw)
                            go_simp
                            (try with_reducible rfl)
                          (try simp only [Act.put, List.setIfInBounds_toArray, List.set_cons_zero, List.set_cons_succ])
                          refine wpAnyH_take (i := 1) (oi := { dst := some 244, op := Go.Op.binOp Go.BinOp.eql 26 (Go.Operand.tmp 243) (Go.Operand.const Go.Value.nilIface) 26, type := 4, pos := "law.go:201", after := #[{ on := 0, ground := Go.Ground.data }], guard := none }) (v := ?_) rfl (by kernel_rfl) (by kernel_rfl) (by kernel_rfl) (fun _ _ _ h => h) (Or.inl ⟨by rfl, ?_⟩) (by assumption) ?_
                          rotate_left
                          · intro w hSw
                            (try dsimp only at hSw)
                            go_simp
                            (try with_reducible rfl)
                          (try simp only [Act.put, List.setIfInBounds_toArray, List.set_cons_zero, List.set_cons_succ])
                          refine wpAnyH_take (i := 2) (oi := { dst := some 245, op := Go.Op.move (Go.Operand.tmp 19), type := 4, pos := "law.go:201", after := #[], guard := none }) (v := ?_) rfl (by kernel_rfl) (by kernel_rfl) (by kernel_rfl) (fun _ _ _ h => h) (Or.inl ⟨by rfl, ?_⟩) (by assumption) ?_
                          rotate_left
                          · intro w hSw
                            (try dsimp only at hSw)
                            go_simp
                            (try with_reducible rfl)
                          (try simp only [Act.put, List.setIfInBounds_toArray, List.set_cons_zero, List.set_cons_succ])
                          refine wpAnyH_take (i := 3) (oi := { dst := some 246, op := Go.Op.binOp Go.BinOp.neq 4 (Go.Operand.tmp 244) (Go.Operand.tmp 245) 4, type := 4, pos := "law.go:201", after := #[{ on := 1, ground := Go.Ground.data }, { on := 2, ground := Go.Ground.data }], guard := none }) (v := ?_) rfl (by kernel_rfl) (by kernel_rfl) (by kernel_rfl) (fun _ _ _ h => h) (Or.inl ⟨by rfl, ?_⟩) (by assumption) ?_
                          rotate_left
                          · intro w hSw
                            (try dsimp only at hSw)
                            go_simp
                            (try with_reducible rfl)
                          (try simp only [Act.put, List.setIfInBounds_toArray, List.set_cons_zero, List.set_cons_succ])
                          refine wpAnyH_take (i := 4) (oi := { dst := some 247, op := Go.Op.move (Go.Operand.tmp 246), type := 4, pos := "law.go:201", after := #[{ on := 3, ground := Go.Ground.data }], guard := none }) (v := ?_) rfl (by kernel_rfl) (by kernel_rfl) (by kernel_rfl) (fun _ _ _ h => h) (Or.inl ⟨by rfl, ?_⟩) (by assumption) ?_
                          rotate_left
                          · intro w hSw
                            (try dsimp only at hSw)
                            go_simp
                            (try with_reducible rfl)
                          (try simp only [Act.put, List.setIfInBounds_toArray, List.set_cons_zero, List.set_cons_succ])
                          refine wpAnyH_take (i := 5) (oi := { dst := some 248, op := Go.Op.move (Go.Operand.tmp 19), type := 4, pos := "law.go:201", after := #[{ on := 4, ground := Go.Ground.guard }], guard := some (4, false) }) (v := ?_) rfl (by kernel_rfl) (by kernel_rfl) (by kernel_rfl) (fun _ _ _ h => h) (Or.inl ⟨by rfl, ?_⟩) (by assumption) ?_
                          rotate_left
                          · intro w hSw
                            (try dsimp only at hSw)
                            go_simp
                            (try with_reducible rfl)
                          (try simp only [Act.put, List.setIfInBounds_toArray, List.set_cons_zero, List.set_cons_succ])
                          refine wpAnyH_take (i := 6) (oi := { dst := some 249, op := Go.Op.move (Go.Operand.tmp 248), type := 4, pos := "law.go:201", after := #[{ on := 5, ground := Go.Ground.data }, { on := 4, ground := Go.Ground.chain }, { on := 4, ground := Go.Ground.guard }], guard := some (4, false) }) (v := ?_) rfl (by kernel_rfl) (by kernel_rfl) (by kernel_rfl) (fun _ _ _ h => h) (Or.inl ⟨by rfl, ?_⟩) (by assumption) ?_
                          rotate_left
                          · intro w hSw
                            (try dsimp only at hSw)
                            go_simp
                            (try with_reducible rfl)
                          (try simp only [Act.put, List.setIfInBounds_toArray, List.set_cons_zero, List.set_cons_succ])
                          refine wpAnyH_take (i := 7) (oi := { dst := some 250, op := Go.Op.fieldAddr 86 (Go.Operand.tmp 17) 1, type := 0, pos := "law.go:201", after := #[{ on := 6, ground := Go.Ground.guard }], guard := some (6, true) }) (v := ?_) rfl (by kernel_rfl) (by kernel_rfl) (by kernel_rfl) (fun _ _ _ h => h) (Or.inl ⟨by rfl, ?_⟩) (by assumption) ?_
                          rotate_left
                          · intro w hSw
                            (try dsimp only at hSw)
                            go_simp
                            (try with_reducible rfl)
                          (try simp only [Act.put, List.setIfInBounds_toArray, List.set_cons_zero, List.set_cons_succ])
                          refine wpAnyH_take (i := 8) (oi := { dst := some 251, op := Go.Op.load 31 (Go.Operand.tmp 250), type := 31, pos := "law.go:201", after := #[{ on := 7, ground := Go.Ground.data }, { on := 6, ground := Go.Ground.guard }], guard := some (6, true) }) (v := ?_) rfl (by kernel_rfl) (by kernel_rfl) (by kernel_rfl) (fun _ _ _ h => h) (Or.inl ⟨by rfl, ?_⟩) (by assumption) ?_
                          rotate_left
                          · intro w hSw
                            (try dsimp only at hSw)
                            go_simp
                            (try with_reducible rfl)
                          (try simp only [Act.put, List.setIfInBounds_toArray, List.set_cons_zero, List.set_cons_succ])
                          refine wpAnyH_take (i := 9) (oi := { dst := some 252, op := Go.Op.convert 31 9 (Go.Operand.tmp 251), type := 9, pos := "law.go:201", after := #[{ on := 8, ground := Go.Ground.data }, { on := 6, ground := Go.Ground.guard }], guard := some (6, true) }) (v := ?_) rfl (by kernel_rfl) (by kernel_rfl) (by kernel_rfl) (fun _ _ _ h => h) (Or.inl ⟨by rfl, ?_⟩) (by assumption) ?_
                          rotate_left
                          · intro w hSw
                            (try dsimp only at hSw)
                            go_simp
                            (try with_reducible rfl)
                          (try simp only [Act.put, List.setIfInBounds_toArray, List.set_cons_zero, List.set_cons_succ])
                          refine wpAnyH_take (i := 10) (oi := { dst := some 253, op := Go.Op.move (Go.Operand.tmp 8), type := 105, pos := "law.go:201", after := #[{ on := 6, ground := Go.Ground.guard }], guard := some (6, true) }) (v := ?_) rfl (by kernel_rfl) (by kernel_rfl) (by kernel_rfl) (fun _ _ _ h => h) (Or.inl ⟨by rfl, ?_⟩) (by assumption) ?_
                          rotate_left
                          · intro w hSw
                            (try dsimp only at hSw)
                            go_simp
                            (try with_reducible rfl)
                          (try simp only [Act.put, List.setIfInBounds_toArray, List.set_cons_zero, List.set_cons_succ])
                          refine wpAnyH_take (i := 11) (oi := { dst := some 254, op := Go.Op.move (Go.Operand.tmp 16), type := 3, pos := "law.go:201", after := #[{ on := 6, ground := Go.Ground.guard }], guard := some (6, true) }) (v := ?_) rfl (by kernel_rfl) (by kernel_rfl) (by kernel_rfl) (fun _ _ _ h => h) (Or.inl ⟨by rfl, ?_⟩) (by assumption) ?_
                          rotate_left
                          · intro w hSw
                            (try dsimp only at hSw)
                            go_simp
                            (try with_reducible rfl)
                          (try simp only [Act.put, List.setIfInBounds_toArray, List.set_cons_zero, List.set_cons_succ])
                          refine wpAnyH_take (i := 12) (oi := { dst := some 255, op := Go.Op.binOp Go.BinOp.sub 3 (Go.Operand.tmp 254) (Go.Operand.const (Go.Value.int Go.IntKind.i64 1)) 3, type := 3, pos := "law.go:201", after := #[{ on := 11, ground := Go.Ground.data }, { on := 6, ground := Go.Ground.guard }], guard := some (6, true) }) (v := ?_) rfl (by kernel_rfl) (by kernel_rfl) (by kernel_rfl) (fun _ _ _ h => h) (Or.inl ⟨by rfl, ?_⟩) (by assumption) ?_
                          rotate_left
                          · intro w hSw
                            (try dsimp only at hSw)
                            go_simp
                            (try with_reducible rfl)
                          (try simp only [Act.put, List.setIfInBounds_toArray, List.set_cons_zero, List.set_cons_succ])
                          refine wpAnyH_take (i := 13) (oi := { dst := some 256, op := Go.Op.indexAddr 105 (Go.Operand.tmp 253) (Go.Operand.tmp 255), type := 0, pos := "law.go:201", after := #[{ on := 10, ground := Go.Ground.data }, { on := 12, ground := Go.Ground.data }, { on := 6, ground := Go.Ground.guard }], guard := some (6, true) }) (v := ?_) rfl (by kernel_rfl) (by kernel_rfl) (by kernel_rfl) (fun _ _ _ h => h) (Or.inl ⟨by rfl, ?_⟩) (by assumption) ?_
                          rotate_left
                          · intro w hSw
                            (try dsimp only at hSw)
                            go_simp
                            (try with_reducible rfl)
                          (try simp only [Act.put, List.setIfInBounds_toArray, List.set_cons_zero, List.set_cons_succ])
                          refine wpAnyH_take (i := 14) (oi := { dst := some 257, op := Go.Op.load 9 (Go.Operand.tmp 256), type := 9, pos := "law.go:201", after := #[{ on := 13, ground := Go.Ground.data }, { on := 6, ground := Go.Ground.guard }], guard := some (6, true) }) (v := ?_) rfl (by kernel_rfl) (by kernel_rfl) (by kernel_rfl) (fun _ _ _ h => h) (Or.inl ⟨by rfl, ?_⟩) (by assumption) ?_
                          rotate_left
                          · intro w hSw
                            (try dsimp only at hSw)
                            go_simp
                            (try with_reducible rfl)
                          (try simp only [Act.put, List.setIfInBounds_toArray, List.set_cons_zero, List.set_cons_succ])
                          refine wpAnyH_take (i := 15) (oi := { dst := some 258, op := Go.Op.binOp Go.BinOp.neq 9 (Go.Operand.tmp 252) (Go.Operand.tmp 257) 9, type := 4, pos := "law.go:201", after := #[{ on := 9, ground := Go.Ground.data }, { on := 14, ground := Go.Ground.data }, { on := 6, ground := Go.Ground.guard }], guard := some (6, true) }) (v := ?_) rfl (by kernel_rfl) (by kernel_rfl) (by kernel_rfl) (fun _ _ _ h => h) (Or.inl ⟨by rfl, ?_⟩) (by assumption) ?_
                          rotate_left
                          · intro w hSw
                            (try dsimp only at hSw)
                            go_simp
                            (try with_reducible rfl)
                          (try simp only [Act.put, List.setIfInBounds_toArray, List.set_cons_zero, List.set_cons_succ])
                          refine wpAnyH_take (i := 16) (oi := { dst := some 259, op := Go.Op.move (Go.Operand.tmp 258), type := 4, pos := "law.go:201", after := #[{ on := 15, ground := Go.Ground.data }, { on := 6, ground := Go.Ground.chain }, { on := 6, ground := Go.Ground.guard }], guard := some (6, true) }) (v := ?_) rfl (by kernel_rfl) (by kernel_rfl) (by kernel_rfl) (fun _ _ _ h => h) (Or.inl ⟨by rfl, ?_⟩) (by assumption) ?_
                          rotate_left
                          · intro w hSw
                            (try dsimp only at hSw)
                            go_simp
                            (try with_reducible rfl)
                          (try simp only [Act.put, List.setIfInBounds_toArray, List.set_cons_zero, List.set_cons_succ])
                          refine wpAnyH_take (i := 17) (oi := { dst := some 260, op := Go.Op.fieldAddr 86 (Go.Operand.tmp 17) 0, type := 0, pos := "law.go:201", after := #[{ on := 16, ground := Go.Ground.guard }], guard := some (16, false) }) (v := ?_) rfl (by kernel_rfl) (by kernel_rfl) (by kernel_rfl) (fun _ _ _ h => h) (Or.inl ⟨by rfl, ?_⟩) (by assumption) ?_
                          rotate_left
                          · intro w hSw
                            (try dsimp only at hSw)
                            go_simp
                            (try with_reducible rfl)
                          (try simp only [Act.put, List.setIfInBounds_toArray, List.set_cons_zero, List.set_cons_succ])
                          refine wpAnyH_take (i := 18) (oi := { dst := some 261, op := Go.Op.load 33 (Go.Operand.tmp 260), type := 33, pos := "law.go:201", after := #[{ on := 17, ground := Go.Ground.data }, { on := 16, ground := Go.Ground.guard }], guard := some (16, false) }) (v := ?_) rfl (by kernel_rfl) (by kernel_rfl) (by kernel_rfl) (fun _ _ _ h => h) (Or.inl ⟨by rfl, ?_⟩) (by assumption) ?_
                          rotate_left
                          · intro w hSw
                            (try dsimp only at hSw)
                            go_simp
                            (try with_reducible rfl)
                          (try simp only [Act.put, List.setIfInBounds_toArray, List.set_cons_zero, List.set_cons_succ])
                          refine wpAnyH_take (i := 19) (oi := { dst := some 262, op := Go.Op.convert 33 3 (Go.Operand.tmp 261), type := 3, pos := "law.go:201", after := #[{ on := 18, ground := Go.Ground.data }, { on := 16, ground := Go.Ground.guard }], guard := some (16, false) }) (v := ?_) rfl (by kernel_rfl) (by kernel_rfl) (by kernel_rfl) (fun _ _ _ h => h) (Or.inl ⟨by rfl, ?_⟩) (by assumption) ?_
                          rotate_left
                          · intro w hSw
                            (try dsimp only at hSw)
                            go_simp
                            (try with_reducible rfl)
                          (try simp only [Act.put, List.setIfInBounds_toArray, List.set_cons_zero, List.set_cons_succ])
                          refine wpAnyH_take (i := 20) (oi := { dst := some 263, op := Go.Op.move (Go.Operand.tmp 16), type := 3, pos := "law.go:201", after := #[{ on := 16, ground := Go.Ground.guard }], guard := some (16, false) }) (v := ?_) rfl (by kernel_rfl) (by kernel_rfl) (by kernel_rfl) (fun _ _ _ h => h) (Or.inl ⟨by rfl, ?_⟩) (by assumption) ?_
                          rotate_left
                          · intro w hSw
                            (try dsimp only at hSw)
                            go_simp
                            (try with_reducible rfl)
                          (try simp only [Act.put, List.setIfInBounds_toArray, List.set_cons_zero, List.set_cons_succ])
                          refine wpAnyH_take (i := 21) (oi := { dst := some 264, op := Go.Op.binOp Go.BinOp.neq 3 (Go.Operand.tmp 262) (Go.Operand.tmp 263) 3, type := 4, pos := "law.go:201", after := #[{ on := 19, ground := Go.Ground.data }, { on := 20, ground := Go.Ground.data }, { on := 16, ground := Go.Ground.guard }], guard := some (16, false) }) (v := ?_) rfl (by kernel_rfl) (by kernel_rfl) (by kernel_rfl) (fun _ _ _ h => h) (Or.inl ⟨by rfl, ?_⟩) (by assumption) ?_
                          rotate_left
                          · intro w hSw
                            (try dsimp only at hSw)
                            go_simp
                            (try with_reducible rfl)
                          (try simp only [Act.put, List.setIfInBounds_toArray, List.set_cons_zero, List.set_cons_succ])
                          refine wpAnyH_take (i := 22) (oi := { dst := some 265, op := Go.Op.pick (Go.Operand.tmp 259) (Go.Operand.const (Go.Value.bool true)) (Go.Operand.tmp 264), type := 4, pos := "law.go:201", after := #[{ on := 16, ground := Go.Ground.data }, { on := 21, ground := Go.Ground.data }, { on := 6, ground := Go.Ground.guard }], guard := some (6, true) }) (v := ?_) rfl (by kernel_rfl) (by kernel_rfl) (by kernel_rfl) (fun _ _ _ h => h) (Or.inl ⟨by rfl, ?_⟩) (by assumption) ?_
                          rotate_left
                          · intro w hSw
                            (try dsimp only at hSw)
                            go_simp
                            (try with_reducible rfl)
                          (try simp only [Act.put, List.setIfInBounds_toArray, List.set_cons_zero, List.set_cons_succ])
                          refine wpAnyH_take (i := 23) (oi := { dst := some 266, op := Go.Op.pick (Go.Operand.tmp 249) (Go.Operand.tmp 265) (Go.Operand.const (Go.Value.bool false)), type := 4, pos := "law.go:201", after := #[{ on := 6, ground := Go.Ground.data }, { on := 22, ground := Go.Ground.data }, { on := 4, ground := Go.Ground.guard }], guard := some (4, false) }) (v := ?_) rfl (by kernel_rfl) (by kernel_rfl) (by kernel_rfl) (fun _ _ _ h => h) (Or.inl ⟨by rfl, ?_⟩) (by assumption) ?_
                          rotate_left
                          · intro w hSw
                            (try dsimp only at hSw)
                            go_simp
                            (try with_reducible rfl)
                          (try simp only [Act.put, List.setIfInBounds_toArray, List.set_cons_zero, List.set_cons_succ])
                          refine wpAnyH_take (i := 24) (oi := { dst := some 267, op := Go.Op.pick (Go.Operand.tmp 247) (Go.Operand.const (Go.Value.bool true)) (Go.Operand.tmp 266), type := 4, pos := "law.go:201", after := #[{ on := 4, ground := Go.Ground.data }, { on := 23, ground := Go.Ground.data }], guard := none }) (v := ?_) rfl (by kernel_rfl) (by kernel_rfl) (by kernel_rfl) (fun _ _ _ h => h) (Or.inl ⟨by rfl, ?_⟩) (by assumption) ?_
                          rotate_left
                          · intro w hSw
                            (try dsimp only at hSw)
                            go_simp
                            (try with_reducible rfl)
                          (try simp only [Act.put, List.setIfInBounds_toArray, List.set_cons_zero, List.set_cons_succ])
                          refine wpAnyH_done (by kernel_rfl) ?_ _
                          clear p7 p8 p9
                          go_wp2_with fail
                          go_roundg (gk - 1)
                          case measure => have := HGQ.out; have := HQ2.out; omega
                          case rel => exact ⟨q + 1, by go_num, by omega, by have := HGQ.out; have := HQ2.out; omega, HKN.out.drew⟩
                      · as_aux_lemma =>
                          have x1 : (sx == 0) = false := by rw [beq_eq_false_iff_ne]; exact hs2
                          have C : Hid (Calls Tryd.prog 45 #[.agg #[.slice o2 n2 c2, .int .u32 (d2 : Int), .int .i64 (M : Int)], .int .u32 (q : Int)] wr fun e w' => e = .returned (.tuple #[.agg #[.int .u32 0, .slice none 0 0, .int .u64 0, .int .i64 0], .iface 146 (.int .i64 21)]) ∧ Below wr.heap.size wr w') := Lib.hid (get_gone o2 n2 c2 d2 M V2 wr HKQ.out.lens (by omega) HKQ.out.verss q i HKQ.out.sec hi he (by rw [← hkm.1]; exact hs2))
                          clear hkm hi he hnk hs2 hq1 hq2 hp3
                          go_wp2_with fail
                          refine C.out.mono ?_
                          rintro e w2 ⟨rfl, hb2⟩
                          have y2 : w2.cell? ⟨w1.heap.size + 1, p, none⟩ = some (.int .i64 sx) := cell_below hb2 y0
                          have l2 : w1.heap.size + 1 < w2.heap.size := (HKQ.out.later hb2).sta.lt
                          have yA : (w2.alloc (.cells #[.int .u32 0, .slice none 0 0, .int .u64 0, .int .i64 0] 86)).cell? ⟨w1.heap.size + 1, p, none⟩ = some (.int .i64 sx) := cell_below ((Below.refl _ _).alloc (Nat.le_refl _) _) y2
                          have hKn := (HKQ.out.later hb2).later ((Below.refl _ _).alloc (Nat.le_refl _) (.cells #[.int .u32 0, .slice none 0 0, .int .u64 0, .int .i64 0] 86))
                          have HKN := Lib.hid hKn
                          clear hKn hb2 y0 hstr s0 s1 s2 C
                          go_wp2_with fail
                          refine wp_region_held_drew (S := (fun _ => True)) (by kernel_rfl) ?_ (fun hHeld => ?_)
                          · (try dsimp only)
                            (try trivial)
                          refine wpAnyH_take (i := 0) (oi := { dst := some 243, op := Go.Op.move (Go.Operand.tmp 18), type := 26, pos := "law.go:201", after := #[], guard := none }) (v := ?_) rfl (by kernel_rfl) (by kernel_rfl) (by kernel_rfl) (fun _ _ _ h => h) (Or.inl ⟨by rfl, ?_⟩) (by assumption) ?_
                          rotate_left
                          · intro w hSw
                            (try dsimp only at hSw)
                            go_simp
                            (try with_reducible rfl)
                          (try simp only [Act.put, List.setIfInBounds_toArray, List.set_cons_zero, List.set_cons_succ])
                          refine wpAnyH_take (i := 1) (oi := { dst := some 244, op := Go.Op.binOp Go.BinOp.eql 26 (Go.Operand.tmp 243) (Go.Operand.const Go.Value.nilIface) 26, type := 4, pos := "law.go:201", after := #[{ on := 0, ground := Go.Ground.data }], guard := none }) (v := ?_) rfl (by kernel_rfl) (by kernel_rfl) (by kernel_rfl) (fun _ _ _ h => h) (Or.inl ⟨by rfl, ?_⟩) (by assumption) ?_
                          rotate_left
                          · intro w hSw
                            (try dsimp only at hSw)
                            go_simp
                            (try with_reducible rfl)
                          (try simp only [Act.put, List.setIfInBounds_toArray, List.set_cons_zero, List.set_cons_succ])
                          refine wpAnyH_take (i := 2) (oi := { dst := some 245, op := Go.Op.move (Go.Operand.tmp 19), type := 4, pos := "law.go:201", after := #[], guard := none }) (v := ?_) rfl (by kernel_rfl) (by kernel_rfl) (by kernel_rfl) (fun _ _ _ h => h) (Or.inl ⟨by rfl, ?_⟩) (by assumption) ?_
                          rotate_left
                          · intro w hSw
                            (try dsimp only at hSw)
                            go_simp
                            (try with_reducible rfl)
                          (try simp only [Act.put, List.setIfInBounds_toArray, List.set_cons_zero, List.set_cons_succ])
                          refine wpAnyH_take (i := 3) (oi := { dst := some 246, op := Go.Op.binOp Go.BinOp.neq 4 (Go.Operand.tmp 244) (Go.Operand.tmp 245) 4, type := 4, pos := "law.go:201", after := #[{ on := 1, ground := Go.Ground.data }, { on := 2, ground := Go.Ground.data }], guard := none }) (v := ?_) rfl (by kernel_rfl) (by kernel_rfl) (by kernel_rfl) (fun _ _ _ h => h) (Or.inl ⟨by rfl, ?_⟩) (by assumption) ?_
                          rotate_left
                          · intro w hSw
                            (try dsimp only at hSw)
                            go_simp
                            (try with_reducible rfl)
                          (try simp only [Act.put, List.setIfInBounds_toArray, List.set_cons_zero, List.set_cons_succ])
                          refine wpAnyH_take (i := 4) (oi := { dst := some 247, op := Go.Op.move (Go.Operand.tmp 246), type := 4, pos := "law.go:201", after := #[{ on := 3, ground := Go.Ground.data }], guard := none }) (v := ?_) rfl (by kernel_rfl) (by kernel_rfl) (by kernel_rfl) (fun _ _ _ h => h) (Or.inl ⟨by rfl, ?_⟩) (by assumption) ?_
                          rotate_left
                          · intro w hSw
                            (try dsimp only at hSw)
                            go_simp
                            (try with_reducible rfl)
                          (try simp only [Act.put, List.setIfInBounds_toArray, List.set_cons_zero, List.set_cons_succ])
                          refine wpAnyH_take (i := 5) (oi := { dst := some 248, op := Go.Op.move (Go.Operand.tmp 19), type := 4, pos := "law.go:201", after := #[{ on := 4, ground := Go.Ground.guard }], guard := some (4, false) }) (v := ?_) rfl (by kernel_rfl) (by kernel_rfl) (by kernel_rfl) (fun _ _ _ h => h) (Or.inl ⟨by rfl, ?_⟩) (by assumption) ?_
                          rotate_left
                          · intro w hSw
                            (try dsimp only at hSw)
                            go_simp
                            (try with_reducible rfl)
                          (try simp only [Act.put, List.setIfInBounds_toArray, List.set_cons_zero, List.set_cons_succ])
                          refine wpAnyH_take (i := 6) (oi := { dst := some 249, op := Go.Op.move (Go.Operand.tmp 248), type := 4, pos := "law.go:201", after := #[{ on := 5, ground := Go.Ground.data }, { on := 4, ground := Go.Ground.chain }, { on := 4, ground := Go.Ground.guard }], guard := some (4, false) }) (v := ?_) rfl (by kernel_rfl) (by kernel_rfl) (by kernel_rfl) (fun _ _ _ h => h) (Or.inl ⟨by rfl, ?_⟩) (by assumption) ?_
                          rotate_left
                          · intro w hSw
                            (try dsimp only at hSw)
                            go_simp
                            (try with_reducible rfl)
                          (try simp only [Act.put, List.setIfInBounds_toArray, List.set_cons_zero, List.set_cons_succ])
                          refine wpAnyH_take (i := 7) (oi := { dst := some 250, op := Go.Op.fieldAddr 86 (Go.Operand.tmp 17) 1, type := 0, pos := "law.go:201", after := #[{ on := 6, ground := Go.Ground.guard }], guard := some (6, true) }) (v := undef) rfl (by kernel_rfl) (by kernel_rfl) (by kernel_rfl) (fun _ _ _ h => h) (Or.inr ⟨by rfl, rfl⟩) (by assumption) ?_
                          (try simp only [Act.put, List.setIfInBounds_toArray, List.set_cons_zero, List.set_cons_succ])
                          refine wpAnyH_take (i := 8) (oi := { dst := some 251, op := Go.Op.load 31 (Go.Operand.tmp 250), type := 31, pos := "law.go:201", after := #[{ on := 7, ground := Go.Ground.data }, { on := 6, ground := Go.Ground.guard }], guard := some (6, true) }) (v := undef) rfl (by kernel_rfl) (by kernel_rfl) (by kernel_rfl) (fun _ _ _ h => h) (Or.inr ⟨by rfl, rfl⟩) (by assumption) ?_
                          (try simp only [Act.put, List.setIfInBounds_toArray, List.set_cons_zero, List.set_cons_succ])
                          refine wpAnyH_take (i := 9) (oi := { dst := some 252, op := Go.Op.convert 31 9 (Go.Operand.tmp 251), type := 9, pos := "law.go:201", after := #[{ on := 8, ground := Go.Ground.data }, { on := 6, ground := Go.Ground.guard }], guard := some (6, true) }) (v := undef) rfl (by kernel_rfl) (by kernel_rfl) (by kernel_rfl) (fun _ _ _ h => h) (Or.inr ⟨by rfl, rfl⟩) (by assumption) ?_
                          (try simp only [Act.put, List.setIfInBounds_toArray, List.set_cons_zero, List.set_cons_succ])
                          refine wpAnyH_take (i := 10) (oi := { dst := some 253, op := Go.Op.move (Go.Operand.tmp 8), type := 105, pos := "law.go:201", after := #[{ on := 6, ground := Go.Ground.guard }], guard := some (6, true) }) (v := undef) rfl (by kernel_rfl) (by kernel_rfl) (by kernel_rfl) (fun _ _ _ h => h) (Or.inr ⟨by rfl, rfl⟩) (by assumption) ?_
                          (try simp only [Act.put, List.setIfInBounds_toArray, List.set_cons_zero, List.set_cons_succ])
                          refine wpAnyH_take (i := 11) (oi := { dst := some 254, op := Go.Op.move (Go.Operand.tmp 16), type := 3, pos := "law.go:201", after := #[{ on := 6, ground := Go.Ground.guard }], guard := some (6, true) }) (v := undef) rfl (by kernel_rfl) (by kernel_rfl) (by kernel_rfl) (fun _ _ _ h => h) (Or.inr ⟨by rfl, rfl⟩) (by assumption) ?_
                          (try simp only [Act.put, List.setIfInBounds_toArray, List.set_cons_zero, List.set_cons_succ])
                          refine wpAnyH_take (i := 12) (oi := { dst := some 255, op := Go.Op.binOp Go.BinOp.sub 3 (Go.Operand.tmp 254) (Go.Operand.const (Go.Value.int Go.IntKind.i64 1)) 3, type := 3, pos := "law.go:201", after := #[{ on := 11, ground := Go.Ground.data }, { on := 6, ground := Go.Ground.guard }], guard := some (6, true) }) (v := undef) rfl (by kernel_rfl) (by kernel_rfl) (by kernel_rfl) (fun _ _ _ h => h) (Or.inr ⟨by rfl, rfl⟩) (by assumption) ?_
                          (try simp only [Act.put, List.setIfInBounds_toArray, List.set_cons_zero, List.set_cons_succ])
                          refine wpAnyH_take (i := 13) (oi := { dst := some 256, op := Go.Op.indexAddr 105 (Go.Operand.tmp 253) (Go.Operand.tmp 255), type := 0, pos := "law.go:201", after := #[{ on := 10, ground := Go.Ground.data }, { on := 12, ground := Go.Ground.data }, { on := 6, ground := Go.Ground.guard }], guard := some (6, true) }) (v := undef) rfl (by kernel_rfl) (by kernel_rfl) (by kernel_rfl) (fun _ _ _ h => h) (Or.inr ⟨by rfl, rfl⟩) (by assumption) ?_
                          (try simp only [Act.put, List.setIfInBounds_toArray, List.set_cons_zero, List.set_cons_succ])
                          refine wpAnyH_take (i := 14) (oi := { dst := some 257, op := Go.Op.load 9 (Go.Operand.tmp 256), type := 9, pos := "law.go:201", after := #[{ on := 13, ground := Go.Ground.data }, { on := 6, ground := Go.Ground.guard }], guard := some (6, true) }) (v := undef) rfl (by kernel_rfl) (by kernel_rfl) (by kernel_rfl) (fun _ _ _ h => h) (Or.inr ⟨by rfl, rfl⟩) (by assumption) ?_
                          (try simp only [Act.put, List.setIfInBounds_toArray, List.set_cons_zero, List.set_cons_succ])
                          refine wpAnyH_take (i := 15) (oi := { dst := some 258, op := Go.Op.binOp Go.BinOp.neq 9 (Go.Operand.tmp 252) (Go.Operand.tmp 257) 9, type := 4, pos := "law.go:201", after := #[{ on := 9, ground := Go.Ground.data }, { on := 14, ground := Go.Ground.data }, { on := 6, ground := Go.Ground.guard }], guard := some (6, true) }) (v := undef) rfl (by kernel_rfl) (by kernel_rfl) (by kernel_rfl) (fun _ _ _ h => h) (Or.inr ⟨by rfl, rfl⟩) (by assumption) ?_
                          (try simp only [Act.put, List.setIfInBounds_toArray, List.set_cons_zero, List.set_cons_succ])
                          refine wpAnyH_take (i := 16) (oi := { dst := some 259, op := Go.Op.move (Go.Operand.tmp 258), type := 4, pos := "law.go:201", after := #[{ on := 15, ground := Go.Ground.data }, { on := 6, ground := Go.Ground.chain }, { on := 6, ground := Go.Ground.guard }], guard := some (6, true) }) (v := undef) rfl (by kernel_rfl) (by kernel_rfl) (by kernel_rfl) (fun _ _ _ h => h) (Or.inr ⟨by rfl, rfl⟩) (by assumption) ?_
                          (try simp only [Act.put, List.setIfInBounds_toArray, List.set_cons_zero, List.set_cons_succ])
                          refine wpAnyH_take (i := 17) (oi := { dst := some 260, op := Go.Op.fieldAddr 86 (Go.Operand.tmp 17) 0, type := 0, pos := "law.go:201", after := #[{ on := 16, ground := Go.Ground.guard }], guard := some (16, false) }) (v := undef) rfl (by kernel_rfl) (by kernel_rfl) (by kernel_rfl) (fun _ _ _ h => h) (Or.inr ⟨by rfl, rfl⟩) (by assumption) ?_
                          (try simp only [Act.put, List.setIfInBounds_toArray, List.set_cons_zero, List.set_cons_succ])
                          refine wpAnyH_take (i := 18) (oi := { dst := some 261, op := Go.Op.load 33 (Go.Operand.tmp 260), type := 33, pos := "law.go:201", after := #[{ on := 17, ground := Go.Ground.data }, { on := 16, ground := Go.Ground.guard }], guard := some (16, false) }) (v := undef) rfl (by kernel_rfl) (by kernel_rfl) (by kernel_rfl) (fun _ _ _ h => h) (Or.inr ⟨by rfl, rfl⟩) (by assumption) ?_
                          (try simp only [Act.put, List.setIfInBounds_toArray, List.set_cons_zero, List.set_cons_succ])
                          refine wpAnyH_take (i := 19) (oi := { dst := some 262, op := Go.Op.convert 33 3 (Go.Operand.tmp 261), type := 3, pos := "law.go:201", after := #[{ on := 18, ground := Go.Ground.data }, { on := 16, ground := Go.Ground.guard }], guard := some (16, false) }) (v := undef) rfl (by kernel_rfl) (by kernel_rfl) (by kernel_rfl) (fun _ _ _ h => h) (Or.inr ⟨by rfl, rfl⟩) (by assumption) ?_
                          (try simp only [Act.put, List.setIfInBounds_toArray, List.set_cons_zero, List.set_cons_succ])
                          refine wpAnyH_take (i := 20) (oi := { dst := some 263, op := Go.Op.move (Go.Operand.tmp 16), type := 3, pos := "law.go:201", after := #[{ on := 16, ground := Go.Ground.guard }], guard := some (16, false) }) (v := undef) rfl (by kernel_rfl) (by kernel_rfl) (by kernel_rfl) (fun _ _ _ h => h) (Or.inr ⟨by rfl, rfl⟩) (by assumption) ?_
                          (try simp only [Act.put, List.setIfInBounds_toArray, List.set_cons_zero, List.set_cons_succ])
                          refine wpAnyH_take (i := 21) (oi := { dst := some 264, op := Go.Op.binOp Go.BinOp.neq 3 (Go.Operand.tmp 262) (Go.Operand.tmp 263) 3, type := 4, pos := "law.go:201", after := #[{ on := 19, ground := Go.Ground.data }, { on := 20, ground := Go.Ground.data }, { on := 16, ground := Go.Ground.guard }], guard := some (16, false) }) (v := undef) rfl (by kernel_rfl) (by kernel_rfl) (by kernel_rfl) (fun _ _ _ h => h) (Or.inr ⟨by rfl, rfl⟩) (by assumption) ?_
                          (try simp only [Act.put, List.setIfInBounds_toArray, List.set_cons_zero, List.set_cons_succ])
                          refine wpAnyH_take (i := 22) (oi := { dst := some 265, op := Go.Op.pick (Go.Operand.tmp 259) (Go.Operand.const (Go.Value.bool true)) (Go.Operand.tmp 264), type := 4, pos := "law.go:201", after := #[{ on := 16, ground := Go.Ground.data }, { on := 21, ground := Go.Ground.data }, { on := 6, ground := Go.Ground.guard }], guard := some (6, true) }) (v := undef) rfl (by kernel_rfl) (by kernel_rfl) (by kernel_rfl) (fun _ _ _ h => h) (Or.inr ⟨by rfl, rfl⟩) (by assumption) ?_
                          (try simp only [Act.put, List.setIfInBounds_toArray, List.set_cons_zero, List.set_cons_succ])
                          refine wpAnyH_take (i := 23) (oi := { dst := some 266, op := Go.Op.pick (Go.Operand.tmp 249) (Go.Operand.tmp 265) (Go.Operand.const (Go.Value.bool false)), type := 4, pos := "law.go:201", after := #[{ on := 6, ground := Go.Ground.data }, { on := 22, ground := Go.Ground.data }, { on := 4, ground := Go.Ground.guard }], guard := some (4, false) }) (v := ?_) rfl (by kernel_rfl) (by kernel_rfl) (by kernel_rfl) (fun _ _ _ h => h) (Or.inl ⟨by rfl, ?_⟩) (by assumption) ?_
                          rotate_left
                          · intro w hSw
                            (try dsimp only at hSw)
                            go_simp
                            (try with_reducible rfl)
                          (try simp only [Act.put, List.setIfInBounds_toArray, List.set_cons_zero, List.set_cons_succ])
                          refine wpAnyH_take (i := 24) (oi := { dst := some 267, op := Go.Op.pick (Go.Operand.tmp 247) (Go.Operand.const (Go.Value.bool true)) (Go.Operand.tmp 266), type := 4, pos := "law.go:201", after := #[{ on := 4, ground := Go.Ground.data }, { on := 23, ground := Go.Ground.data }], guard := none }) (v := ?_) rfl (by kernel_rfl) (by kernel_rfl) (by kernel_rfl) (fun _ _ _ h => h) (Or.inl ⟨by rfl, ?_⟩) (by assumption) ?_
                          rotate_left
                          · intro w hSw
                            (try dsimp only at hSw)
                            go_simp
                            (try with_reducible rfl)
                          (try simp only [Act.put, List.setIfInBounds_toArray, List.set_cons_zero, List.set_cons_succ])
                          refine wpAnyH_done (by kernel_rfl) ?_ _
                          go_wp2_with fail
                          go_roundg (gk - 1)
                          case measure => have := HGQ.out; have := HQ2.out; omega
                          case rel => exact ⟨q + 1, by go_num, by omega, by have := HGQ.out; have := HQ2.out; omega, HKN.out.drew⟩
                    · as_aux_lemma =>
                        have C : Hid (Calls Tryd.prog 45 #[.agg #[.slice o2 n2 c2, .int .u32 (d2 : Int), .int .i64 (M : Int)], .int .u32 (q : Int)] wr fun e w' => e = .returned (.tuple #[.agg #[.int .u32 0, .slice none 0 0, .int .u64 0, .int .i64 0], .iface 146 (.int .i64 5)]) ∧ Below wr.heap.size wr w') := Lib.hid (get_none o2 n2 c2 d2 M V2 wr HKQ.out.lens (by omega) HKQ.out.verss q HKQ.out.sec (ks_out HKQ.out.sec HKQ.out.mn hq1 (.inr (by omega))))
                        have p6 : decide ((d2 : Int) - (M : Int) < (q : Int)) = false := by simp; omega
                        clear hq1 hq2 hp3
                        go_wp2_with fail
                        refine C.out.mono ?_
                        rintro e w2 ⟨rfl, hb2⟩
                        have y2 : w2.cell? ⟨w1.heap.size + 1, p, none⟩ = some (.int .i64 sx) := cell_below hb2 y0
                        have l2 : w1.heap.size + 1 < w2.heap.size := (HKQ.out.later hb2).sta.lt
                        have yA : (w2.alloc (.cells #[.int .u32 0, .slice none 0 0, .int .u64 0, .int .i64 0] 86)).cell? ⟨w1.heap.size + 1, p, none⟩ = some (.int .i64 sx) := cell_below ((Below.refl _ _).alloc (Nat.le_refl _) _) y2
                        have hKn := (HKQ.out.later hb2).later ((Below.refl _ _).alloc (Nat.le_refl _) (.cells #[.int .u32 0, .slice none 0 0, .int .u64 0, .int .i64 0] 86))
                        have HKN := Lib.hid hKn
                        clear hKn hb2 y0 hstr s0 s1 s2 C
                        go_wp2_with fail
                        refine wp_region_held_drew (S := (fun _ => True)) (by kernel_rfl) ?_ (fun hHeld => ?_)
                        · (try dsimp only)
                          (try trivial)
                        refine wpAnyH_take (i := 0) (oi := { dst := some 243, op := Go.Op.move (Go.Operand.tmp 18), type := 26, pos := "law.go:201", after := #[], guard := none }) (v := ?_) rfl (by kernel_rfl) (by kernel_rfl) (by kernel_rfl) (fun _ _ _ h => h) (Or.inl ⟨by rfl, ?_⟩) (by assumption) ?_
                        rotate_left
                        · intro w hSw
                          (try dsimp only at hSw)
                          go_simp
                          (try with_reducible rfl)
                        (try simp only [Act.put, List.setIfInBounds_toArray, List.set_cons_zero, List.set_cons_succ])
                        refine wpAnyH_take (i := 1) (oi := { dst := some 244, op := Go.Op.binOp Go.BinOp.eql 26 (Go.Operand.tmp 243) (Go.Operand.const Go.Value.nilIface) 26, type := 4, pos := "law.go:201", after := #[{ on := 0, ground := Go.Ground.data }], guard := none }) (v := ?_) rfl (by kernel_rfl) (by kernel_rfl) (by kernel_rfl) (fun _ _ _ h => h) (Or.inl ⟨by rfl, ?_⟩) (by assumption) ?_
                        rotate_left
                        · intro w hSw
                          (try dsimp only at hSw)
                          go_simp
                          (try with_reducible rfl)
                        (try simp only [Act.put, List.setIfInBounds_toArray, List.set_cons_zero, List.set_cons_succ])
                        refine wpAnyH_take (i := 2) (oi := { dst := some 245, op := Go.Op.move (Go.Operand.tmp 19), type := 4, pos := "law.go:201", after := #[], guard := none }) (v := ?_) rfl (by kernel_rfl) (by kernel_rfl) (by kernel_rfl) (fun _ _ _ h => h) (Or.inl ⟨by rfl, ?_⟩) (by assumption) ?_
                        rotate_left
                        · intro w hSw
                          (try dsimp only at hSw)
                          go_simp
                          (try with_reducible rfl)
                        (try simp only [Act.put, List.setIfInBounds_toArray, List.set_cons_zero, List.set_cons_succ])
                        refine wpAnyH_take (i := 3) (oi := { dst := some 246, op := Go.Op.binOp Go.BinOp.neq 4 (Go.Operand.tmp 244) (Go.Operand.tmp 245) 4, type := 4, pos := "law.go:201", after := #[{ on := 1, ground := Go.Ground.data }, { on := 2, ground := Go.Ground.data }], guard := none }) (v := ?_) rfl (by kernel_rfl) (by kernel_rfl) (by kernel_rfl) (fun _ _ _ h => h) (Or.inl ⟨by rfl, ?_⟩) (by assumption) ?_
                        rotate_left
                        · intro w hSw
                          (try dsimp only at hSw)
                          go_simp
                          (try with_reducible rfl)
                        (try simp only [Act.put, List.setIfInBounds_toArray, List.set_cons_zero, List.set_cons_succ])
                        refine wpAnyH_take (i := 4) (oi := { dst := some 247, op := Go.Op.move (Go.Operand.tmp 246), type := 4, pos := "law.go:201", after := #[{ on := 3, ground := Go.Ground.data }], guard := none }) (v := ?_) rfl (by kernel_rfl) (by kernel_rfl) (by kernel_rfl) (fun _ _ _ h => h) (Or.inl ⟨by rfl, ?_⟩) (by assumption) ?_
                        rotate_left
                        · intro w hSw
                          (try dsimp only at hSw)
                          go_simp
                          (try with_reducible rfl)
                        (try simp only [Act.put, List.setIfInBounds_toArray, List.set_cons_zero, List.set_cons_succ])
                        refine wpAnyH_take (i := 5) (oi := { dst := some 248, op := Go.Op.move (Go.Operand.tmp 19), type := 4, pos := "law.go:201", after := #[{ on := 4, ground := Go.Ground.guard }], guard := some (4, false) }) (v := ?_) rfl (by kernel_rfl) (by kernel_rfl) (by kernel_rfl) (fun _ _ _ h => h) (Or.inl ⟨by rfl, ?_⟩) (by assumption) ?_
                        rotate_left
                        · intro w hSw
                          (try dsimp only at hSw)
                          go_simp
                          (try with_reducible rfl)
                        (try simp only [Act.put, List.setIfInBounds_toArray, List.set_cons_zero, List.set_cons_succ])
                        refine wpAnyH_take (i := 6) (oi := { dst := some 249, op := Go.Op.move (Go.Operand.tmp 248), type := 4, pos := "law.go:201", after := #[{ on := 5, ground := Go.Ground.data }, { on := 4, ground := Go.Ground.chain }, { on := 4, ground := Go.Ground.guard }], guard := some (4, false) }) (v := ?_) rfl (by kernel_rfl) (by kernel_rfl) (by kernel_rfl) (fun _ _ _ h => h) (Or.inl ⟨by rfl, ?_⟩) (by assumption) ?_
                        rotate_left
                        · intro w hSw
                          (try dsimp only at hSw)
                          go_simp
                          (try with_reducible rfl)
                        (try simp only [Act.put, List.setIfInBounds_toArray, List.set_cons_zero, List.set_cons_succ])
                        refine wpAnyH_take (i := 7) (oi := { dst := some 250, op := Go.Op.fieldAddr 86 (Go.Operand.tmp 17) 1, type := 0, pos := "law.go:201", after := #[{ on := 6, ground := Go.Ground.guard }], guard := some (6, true) }) (v := undef) rfl (by kernel_rfl) (by kernel_rfl) (by kernel_rfl) (fun _ _ _ h => h) (Or.inr ⟨by rfl, rfl⟩) (by assumption) ?_
                        (try simp only [Act.put, List.setIfInBounds_toArray, List.set_cons_zero, List.set_cons_succ])
                        refine wpAnyH_take (i := 8) (oi := { dst := some 251, op := Go.Op.load 31 (Go.Operand.tmp 250), type := 31, pos := "law.go:201", after := #[{ on := 7, ground := Go.Ground.data }, { on := 6, ground := Go.Ground.guard }], guard := some (6, true) }) (v := undef) rfl (by kernel_rfl) (by kernel_rfl) (by kernel_rfl) (fun _ _ _ h => h) (Or.inr ⟨by rfl, rfl⟩) (by assumption) ?_
                        (try simp only [Act.put, List.setIfInBounds_toArray, List.set_cons_zero, List.set_cons_succ])
                        refine wpAnyH_take (i := 9) (oi := { dst := some 252, op := Go.Op.convert 31 9 (Go.Operand.tmp 251), type := 9, pos := "law.go:201", after := #[{ on := 8, ground := Go.Ground.data }, { on := 6, ground := Go.Ground.guard }], guard := some (6, true) }) (v := undef) rfl (by kernel_rfl) (by kernel_rfl) (by kernel_rfl) (fun _ _ _ h => h) (Or.inr ⟨by rfl, rfl⟩) (by assumption) ?_
                        (try simp only [Act.put, List.setIfInBounds_toArray, List.set_cons_zero, List.set_cons_succ])
                        refine wpAnyH_take (i := 10) (oi := { dst := some 253, op := Go.Op.move (Go.Operand.tmp 8), type := 105, pos := "law.go:201", after := #[{ on := 6, ground := Go.Ground.guard }], guard := some (6, true) }) (v := undef) rfl (by kernel_rfl) (by kernel_rfl) (by kernel_rfl) (fun _ _ _ h => h) (Or.inr ⟨by rfl, rfl⟩) (by assumption) ?_
                        (try simp only [Act.put, List.setIfInBounds_toArray, List.set_cons_zero, List.set_cons_succ])
                        refine wpAnyH_take (i := 11) (oi := { dst := some 254, op := Go.Op.move (Go.Operand.tmp 16), type := 3, pos := "law.go:201", after := #[{ on := 6, ground := Go.Ground.guard }], guard := some (6, true) }) (v := undef) rfl (by kernel_rfl) (by kernel_rfl) (by kernel_rfl) (fun _ _ _ h => h) (Or.inr ⟨by rfl, rfl⟩) (by assumption) ?_
                        (try simp only [Act.put, List.setIfInBounds_toArray, List.set_cons_zero, List.set_cons_succ])
                        refine wpAnyH_take (i := 12) (oi := { dst := some 255, op := Go.Op.binOp Go.BinOp.sub 3 (Go.Operand.tmp 254) (Go.Operand.const (Go.Value.int Go.IntKind.i64 1)) 3, type := 3, pos := "law.go:201", after := #[{ on := 11, ground := Go.Ground.data }, { on := 6, ground := Go.Ground.guard }], guard := some (6, true) }) (v := undef) rfl (by kernel_rfl) (by kernel_rfl) (by kernel_rfl) (fun _ _ _ h => h) (Or.inr ⟨by rfl, rfl⟩) (by assumption) ?_
                        (try simp only [Act.put, List.setIfInBounds_toArray, List.set_cons_zero, List.set_cons_succ])
                        refine wpAnyH_take (i := 13) (oi := { dst := some 256, op := Go.Op.indexAddr 105 (Go.Operand.tmp 253) (Go.Operand.tmp 255), type := 0, pos := "law.go:201", after := #[{ on := 10, ground := Go.Ground.data }, { on := 12, ground := Go.Ground.data }, { on := 6, ground := Go.Ground.guard }], guard := some (6, true) }) (v := undef) rfl (by kernel_rfl) (by kernel_rfl) (by kernel_rfl) (fun _ _ _ h => h) (Or.inr ⟨by rfl, rfl⟩) (by assumption) ?_
                        (try simp only [Act.put, List.setIfInBounds_toArray, List.set_cons_zero, List.set_cons_succ])
                        refine wpAnyH_take (i := 14) (oi := { dst := some 257, op := Go.Op.load 9 (Go.Operand.tmp 256), type := 9, pos := "law.go:201", after := #[{ on := 13, ground := Go.Ground.data }, { on := 6, ground := Go.Ground.guard }], guard := some (6, true) }) (v := undef) rfl (by kernel_rfl) (by kernel_rfl) (by kernel_rfl) (fun _ _ _ h => h) (Or.inr ⟨by rfl, rfl⟩) (by assumption) ?_
                        (try simp only [Act.put, List.setIfInBounds_toArray, List.set_cons_zero, List.set_cons_succ])
                        refine wpAnyH_take (i := 15) (oi := { dst := some 258, op := Go.Op.binOp Go.BinOp.neq 9 (Go.Operand.tmp 252) (Go.Operand.tmp 257) 9, type := 4, pos := "law.go:201", after := #[{ on := 9, ground := Go.Ground.data }, { on := 14, ground := Go.Ground.data }, { on := 6, ground := Go.Ground.guard }], guard := some (6, true) }) (v := undef) rfl (by kernel_rfl) (by kernel_rfl) (by kernel_rfl) (fun _ _ _ h => h) (Or.inr ⟨by rfl, rfl⟩) (by assumption) ?_
                        (try simp only [Act.put, List.setIfInBounds_toArray, List.set_cons_zero, List.set_cons_succ])
                        refine wpAnyH_take (i := 16) (oi := { dst := some 259, op := Go.Op.move (Go.Operand.tmp 258), type := 4, pos := "law.go:201", after := #[{ on := 15, ground := Go.Ground.data }, { on := 6, ground := Go.Ground.chain }, { on := 6, ground := Go.Ground.guard }], guard := some (6, true) }) (v := undef) rfl (by kernel_rfl) (by kernel_rfl) (by kernel_rfl) (fun _ _ _ h => h) (Or.inr ⟨by rfl, rfl⟩) (by assumption) ?_
                        (try simp only [Act.put, List.setIfInBounds_toArray, List.set_cons_zero, List.set_cons_succ])
                        refine wpAnyH_take (i := 17) (oi := { dst := some 260, op := Go.Op.fieldAddr 86 (Go.Operand.tmp 17) 0, type := 0, pos := "law.go:201", after := #[{ on := 16, ground := Go.Ground.guard }], guard := some (16, false) }) (v := undef) rfl (by kernel_rfl) (by kernel_rfl) (by kernel_rfl) (fun _ _ _ h => h) (Or.inr ⟨by rfl, rfl⟩) (by assumption) ?_
                        (try simp only [Act.put, List.setIfInBounds_toArray, List.set_cons_zero, List.set_cons_succ])
                        refine wpAnyH_take (i := 18) (oi := { dst := some 261, op := Go.Op.load 33 (Go.Operand.tmp 260), type := 33, pos := "law.go:201", after := #[{ on := 17, ground := Go.Ground.data }, { on := 16, ground := Go.Ground.guard }], guard := some (16, false) }) (v := undef) rfl (by kernel_rfl) (by kernel_rfl) (by kernel_rfl) (fun _ _ _ h => h) (Or.inr ⟨by rfl, rfl⟩) (by assumption) ?_
                        (try simp only [Act.put, List.setIfInBounds_toArray, List.set_cons_zero, List.set_cons_succ])
                        refine wpAnyH_take (i := 19) (oi := { dst := some 262, op := Go.Op.convert 33 3 (Go.Operand.tmp 261), type := 3, pos := "law.go:201", after := #[{ on := 18, ground := Go.Ground.data }, { on := 16, ground := Go.Ground.guard }], guard := some (16, false) }) (v := undef) rfl (by kernel_rfl) (by kernel_rfl) (by kernel_rfl) (fun _ _ _ h => h) (Or.inr ⟨by rfl, rfl⟩) (by assumption) ?_
                        (try simp only [Act.put, List.setIfInBounds_toArray, List.set_cons_zero, List.set_cons_succ])
                        refine wpAnyH_take (i := 20) (oi := { dst := some 263, op := Go.Op.move (Go.Operand.tmp 16), type := 3, pos := "law.go:201", after := #[{ on := 16, ground := Go.Ground.guard }], guard := some (16, false) }) (v := undef) rfl (by kernel_rfl) (by kernel_rfl) (by kernel_rfl) (fun _ _ _ h => h) (Or.inr ⟨by rfl, rfl⟩) (by assumption) ?_
                        (try simp only [Act.put, List.setIfInBounds_toArray, List.set_cons_zero, List.set_cons_succ])
                        refine wpAnyH_take (i := 21) (oi := { dst := some 264, op := Go.Op.binOp Go.BinOp.neq 3 (Go.Operand.tmp 262) (Go.Operand.tmp 263) 3, type := 4, pos := "law.go:201", after := #[{ on := 19, ground := Go.Ground.data }, { on := 20, ground := Go.Ground.data }, { on := 16, ground := Go.Ground.guard }], guard := some (16, false) }) (v := undef) rfl (by kernel_rfl) (by kernel_rfl) (by kernel_rfl) (fun _ _ _ h => h) (Or.inr ⟨by rfl, rfl⟩) (by assumption) ?_
                        (try simp only [Act.put, List.setIfInBounds_toArray, List.set_cons_zero, List.set_cons_succ])
                        refine wpAnyH_take (i := 22) (oi := { dst := some 265, op := Go.Op.pick (Go.Operand.tmp 259) (Go.Operand.const (Go.Value.bool true)) (Go.Operand.tmp 264), type := 4, pos := "law.go:201", after := #[{ on := 16, ground := Go.Ground.data }, { on := 21, ground := Go.Ground.data }, { on := 6, ground := Go.Ground.guard }], guard := some (6, true) }) (v := undef) rfl (by kernel_rfl) (by kernel_rfl) (by kernel_rfl) (fun _ _ _ h => h) (Or.inr ⟨by rfl, rfl⟩) (by assumption) ?_
                        (try simp only [Act.put, List.setIfInBounds_toArray, List.set_cons_zero, List.set_cons_succ])
                        refine wpAnyH_take (i := 23) (oi := { dst := some 266, op := Go.Op.pick (Go.Operand.tmp 249) (Go.Operand.tmp 265) (Go.Operand.const (Go.Value.bool false)), type := 4, pos := "law.go:201", after := #[{ on := 6, ground := Go.Ground.data }, { on := 22, ground := Go.Ground.data }, { on := 4, ground := Go.Ground.guard }], guard := some (4, false) }) (v := ?_) rfl (by kernel_rfl) (by kernel_rfl) (by kernel_rfl) (fun _ _ _ h => h) (Or.inl ⟨by rfl, ?_⟩) (by assumption) ?_
                        rotate_left
                        · intro w hSw
                          (try dsimp only at hSw)
                          go_simp
                          (try with_reducible rfl)
                        (try simp only [Act.put, List.setIfInBounds_toArray, List.set_cons_zero, List.set_cons_succ])
                        refine wpAnyH_take (i := 24) (oi := { dst := some 267, op := Go.Op.pick (Go.Operand.tmp 247) (Go.Operand.const (Go.Value.bool true)) (Go.Operand.tmp 266), type := 4, pos := "law.go:201", after := #[{ on := 4, ground := Go.Ground.data }, { on := 23, ground := Go.Ground.data }], guard := none }) (v := ?_) rfl (by kernel_rfl) (by kernel_rfl) (by kernel_rfl) (fun _ _ _ h => h) (Or.inl ⟨by rfl, ?_⟩) (by assumption) ?_
                        rotate_left
                        · intro w hSw
                          (try dsimp only at hSw)
                          go_simp
                          (try with_reducible rfl)
                        (try simp only [Act.put, List.setIfInBounds_toArray, List.set_cons_zero, List.set_cons_succ])
                        refine wpAnyH_done (by kernel_rfl) ?_ _
                        go_wp2_with fail
                        go_roundg (gk - 1)
                        case measure => have := HGQ.out; have := HQ2.out; omega
                        case rel => exact ⟨q + 1, by go_num, by omega, by have := HGQ.out; have := HQ2.out; omega, HKN.out.drew⟩
                  · as_aux_lemma =>
                      have p3 : decide (q ≤ d2) = false := by simp; omega
                      clear hq1 hq2
                      have s0 : wr.cell? ⟨w1.heap.size, 0, none⟩ = some (.slice o2 n2 c2) := Blk.cell HKQ.out.blk 0
                      have s1 : wr.cell? ⟨w1.heap.size, 1, none⟩ = some (.int .u32 (d2 : Int)) := Blk.cell HKQ.out.blk 1
                      have s2 : wr.cell? ⟨w1.heap.size, 2, none⟩ = some (.int .i64 (M : Int)) := Blk.cell HKQ.out.blk 2
                      go_wp2_with fail
                      refine (check_yes o2 n2 c2 d2 (M : Int) V2 _ HKQ.out.lens (by omega) HKQ.out.verss HKQ.out.sec).mono ?_
                      rintro e w2 ⟨rfl, hb2⟩
                      have HKN := Lib.hid (HKQ.out.later hb2)
                      clear hb2 s0 s1 s2
                      go_wp2_with fail
                      go_roundg (g0 - 1)
                      case measure => have := HG0.out; have := HGK.out; omega
                      case rel => exact ⟨j + 1, d2, n2, D2, st2, _, V2, by go_num, by have := HG0.out; have := HGK.out; omega, by omega, by have := HD2.out; omega, HKN.out⟩
      · have g1 : (100 : Int) < (la : Int) := by omega
        clear hb1
        go_wp2_with fail
        go_roundg (gk - 1)
        case measure => have := HGK.out; omega
        case rel => exact ⟨j + 1, d, ns, D, st, _, V, by go_num, by have := HGK.out; omega, by omega, by have := HDJ.out; omega, HK.out.later ((Below.refl _ _).alloc (Nat.le_refl _) _)⟩
    · by_cases hl1 : j < n
      · have g1 : (j : Int) < (n : Int) := by omega
        have g2 : decide ((j : Int) < 40) = false := by simp; omega
        clear hlt
        go_wp2_with fail
        refine (sure30_any _ HK.out.wn.handle).mono ?_
        rintro e w2 ⟨rfl, hb2⟩
        go_wp2_with fail
        go_ret
        exact ⟨rfl, (HK.out.wn.step hb2).bel⟩
      · have g1 : decide (j < n) = false := by simp; omega
        clear hlt hl1
        go_wp2_with fail
        refine (sure30_any _ HK.out.wn.handle).mono ?_
        rintro e w2 ⟨rfl, hb2⟩
        go_wp2_with fail
        go_ret
        exact ⟨rfl, (HK.out.wn.step hb2).bel⟩
end Go.Proofs.YtkaddilgegimjaaDoor
