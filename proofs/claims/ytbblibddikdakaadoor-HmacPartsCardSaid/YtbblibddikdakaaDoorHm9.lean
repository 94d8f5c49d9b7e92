/- HmacParts walked. -/
import Derived.Test.YtbblibddikdakaaDoorHm8
namespace Go.Proofs.YtbblibddikdakaaDoor
set_option linter.unusedVariables false
set_option linter.unusedSimpArgs false
open Go.RowKit

theorem Bytes.hi {w : World} {ob p : Option Addr} {m cm i : Nat} {B : Nat → Nat} (h : Bytes w ob m B) (hmc : m ≤ cm) (hi : i ≤ m) (hp : (if cm = i then ob else Option.map (fun x => x.add i) ob) = p) : Bytes w p (m - i) (fun t => B (i + t)) := fun k hk => by
  obtain ⟨b1, b, off, hob, hcell⟩ := h (i + k) (by omega)
  rw [if_neg (by omega), hob] at hp
  refine ⟨b1, b, off + i, ?_, by rw [Nat.add_assoc]; exact hcell⟩
  rw [← hp]
  show some ((⟨b, off, none⟩ : Addr).add i) = _
  rw [Addr.add_mid]
theorem hi_none {w : World} {ob p : Option Addr} {m cm i : Nat} {B : Nat → Nat} (h : Bytes w ob m B) (hmc : m ≤ cm) (hi : i ≤ m) (hp : (if cm = i then ob else Option.map (fun x => x.add i) ob) = p) : p = none → m - i = 0 := fun e => by
  rcases Nat.eq_zero_or_pos (m - i) with h0 | h0
  · exact h0
  · obtain ⟨_, b, off, h1, _⟩ := Bytes.hi h hmc hi hp 0 h0
    rw [e] at h1; cases h1
def twoL (p q : Nat) : Nat → Nat := fun k => if k = 0 then p else q
def twoG (A B : Nat → Nat) : Nat → Nat → Nat := fun k => if k = 0 then A else B
theorem two_parts {w : World} {oa ob : Option Addr} {p cp q cq : Nat} {A B : Nat → Nat} (ha : Bytes w oa p A) (hb : Bytes w ob q B) (hpc : p ≤ cp) (hqc : q ≤ cq) (hao : oa = none → p = 0) (hbo : ob = none → q = 0) (hcp : cp ≤ maxLen) (hcq : cq ≤ maxLen) :
    LBs (w.alloc (.cells #[.slice oa p cp, .slice ob q cq] 25)) (some ⟨w.heap.size, 0, none⟩) 2 (twoL p q) (twoG A B) := fun k hk => by
  have hba : Below w.heap.size w (w.alloc (.cells #[.slice oa p cp, .slice ob q cq] 25)) := (Below.refl _ _).alloc (Nat.le_refl _) _
  rcases (by omega : k = 0 ∨ k = 1) with rfl | rfl
  · exact ⟨w.heap.size, 0, oa, cp, rfl, World.cell?_alloc_mark w #[.slice oa p cp, .slice ob q cq] 25 (0, 0) 0, hpc, ha.later hba, hao, hcp⟩
  · exact ⟨w.heap.size, 0, ob, cq, rfl, World.cell?_alloc_mark w #[.slice oa p cp, .slice ob q cq] 25 (0, 0) 1, hqc, hb.later hba, hbo, hcq⟩
theorem two_len (p q : Nat) : jlen (twoL p q) 2 = 4 + p + 4 + q := by
  show 0 + 4 + p + 4 + q = _; omega
theorem two_fun (p q : Nat) (A B : Nat → Nat) : jfun (twoL p q) (twoG A B) 2 = toF p q A B := by
  show catF (0 + 4 + p + 4) (catF (0 + 4 + p) (catF (0 + 4) (catF 0 (fun _ => 0) (numB p 4)) A) (numB q 4)) B = _
  have e : catF 0 (fun _ => 0) (numB p 4) = numB p 4 := funext fun i => by rw [catF_hi (Nat.not_lt_zero _), Nat.sub_zero]
  rw [e, Nat.zero_add]; rfl
theorem toF_at {p q : Nat} {A B : Nat → Nat} {k : Nat} (hk : k < 4) : toF p q A B k = numB p 4 k := by
  unfold toF; rw [catF_lo (by omega), catF_lo (by omega), catF_lo hk]
theorem toF_ne {p q p' q' : Nat} {A B A' B' : Nat → Nat} (hp : p < 65536) (hp' : p' < 65536) (h2 : toF p q A B 2 = toF p' q' A' B' 2) (h3 : toF p q A B 3 = toF p' q' A' B' 3) : p = p' := by
  rw [toF_at (by decide), toF_at (by decide)] at h2 h3
  have e2 : p / 256 % 256 = p' / 256 % 256 := h2
  have e3 : p / 1 % 256 = p' / 1 % 256 := h3
  omega
/-- What was told, both times. -/
def SXY (gx gy M : Nat) (FX FY : Nat → Nat) (w : World) : Prop := Bytes w (some ⟨gx, 0, none⟩) M FX ∧ Bytes w (some ⟨gy, 0, none⟩) M FY
theorem SXY.below {gx gy M : Nat} {FX FY : Nat → Nat} {w w' : World} (h : SXY gx gy M FX FY w) (hb : Below w.heap.size w w') : SXY gx gy M FX FY w' := ⟨h.1.later hb, h.2.later hb⟩
set_option maxRecDepth 100000 in
set_option maxHeartbeats 8000000 in
theorem hparts_any (oa : Option Addr) (n cn : Nat) (K : Nat → Nat) (ob : Option Addr) (m cm : Nat) (B : Nat → Nat) (x0 x1 : Nat) (w : World) (hb : Bytes w oa n K) (hnc : n ≤ cn) (hno : oa = none → n = 0) (hcn : cn ≤ maxLen) (hb2 : Bytes w ob m B) (hmc : m ≤ cm) (hmo : ob = none → m = 0) (hcm : cm ≤ maxLen) (hx0 : x0 < 65536) (hx1 : x1 < 65536) (hg : GV w) :
    Calls Tryd.prog 6 #[.slice oa n cn, .slice ob m cm, .agg #[.int .u16 (x0 : Nat), .int .u16 (x1 : Nat)]] w fun e w' => e = .returned (.bool true) ∧ Below w.heap.size w w' := by
  unfold maxLen at hcn hcm
  have HG := Lib.hid hg
  have HKL : Hid (∀ w', Below w.heap.size w w' → Bytes w' oa n K) := Lib.hid fun w' h => hb.later h
  have HBL : Hid (∀ w', Below w.heap.size w w' → Bytes w' ob m B) := Lib.hid fun w' h => hb2.later h
  have HNC : Hid (n ≤ cn ∧ m ≤ cm) := Lib.hid ⟨hnc, hmc⟩
  have HNO := Lib.hid hno
  have HMO := Lib.hid hmo
  have hn0 : (n : Int) ≤ 9223372036854775807 := by omega
  have hm0 : (m : Int) ≤ 9223372036854775807 := by omega
  have hm1 : (m : Int) ≤ (cm : Int) := by omega
  have H0 : Hid (Below w.heap.size w (w.alloc (.cells #[.int .u16 (x0 : Nat), .int .u16 (x1 : Nat)] 39)) ∧ GV (w.alloc (.cells #[.int .u16 (x0 : Nat), .int .u16 (x1 : Nat)] 39)) ∧ Blk (w.alloc (.cells #[.int .u16 (x0 : Nat), .int .u16 (x1 : Nat)] 39)) w.heap.size #[.int .u16 (x0 : Nat), .int .u16 (x1 : Nat)] 39) := Lib.hid (by
    have hba : Below w.heap.size w (w.alloc (.cells #[.int .u16 (x0 : Nat), .int .u16 (x1 : Nat)] 39)) := (Below.refl _ _).alloc (Nat.le_refl _) _
    exact ⟨hba, hg.later hba, Blk.new w _ _⟩)
  clear hg hb hb2 hnc hmc hno hmo
  go_enter Tryd.func6, Tryd.ntmps6
  have hcs : (200 : Int) < (n : Int) ∨ (¬ (200 : Int) < (n : Int) ∧ (300 : Int) < (m : Int)) ∨ (¬ (200 : Int) < (n : Int) ∧ ¬ (300 : Int) < (m : Int)) := by omega
  rcases hcs with h1 | ⟨h1, h2⟩ | ⟨h1, h2⟩
  · have h0 : True := trivial
    go_wp2_with fail
    refine (hmac_sure _ H0.out.2.1).mono ?_
    rintro e w5 ⟨rfl, hb5⟩
    have HO := Lib.hid (H0.out.1.trans (hb5.mono H0.out.1.size))
    clear hb5
    go_wp2_with fail
    go_ret
    exact ⟨rfl, HO.out⟩
  · have h0 : True := trivial
    go_wp2_with fail
    refine (hmac_sure _ H0.out.2.1).mono ?_
    rintro e w5 ⟨rfl, hb5⟩
    have HO := Lib.hid (H0.out.1.trans (hb5.mono H0.out.1.size))
    clear hb5
    go_wp2_with fail
    go_ret
    exact ⟨rfl, HO.out⟩
  · have HN : Hid (n ≤ 200 ∧ m ≤ 300) := Lib.hid (by omega)
    obtain ⟨m1, hm1e⟩ : ∃ k, m + 1 = k := ⟨_, rfl⟩
    have hmw : IntKind.i64.wrap ((m : Int) + 1) = (m1 : Int) := by rw [IntWalk.i64_in _ (by omega)]; omega
    have hm2 : ¬ (m1 : Int) = 0 := by omega
    have hm3 : ¬ m1 = 0 := by omega
    have hm4 : ((m1 : Int) == 0) = false := by simpa using hm3
    obtain ⟨i, hi⟩ : ∃ i, x0 % m1 = i := ⟨_, rfl⟩
    obtain ⟨j, hj⟩ : ∃ i, x1 % m1 = i := ⟨_, rfl⟩
    have hti : (x0 : Int).tmod (m1 : Int) = (i : Int) := tmk rfl hi
    have htj : (x1 : Int).tmod (m1 : Int) = (j : Int) := tmk rfl hj
    have him : i ≤ m := by have := Nat.mod_lt x0 (show 0 < m1 by omega); omega
    have hjm : j ≤ m := by have := Nat.mod_lt x1 (show 0 < m1 by omega); omega
    have hwi : IntKind.i64.wrap (i : Int) = (i : Int) := IntWalk.i64_in _ (by omega)
    have hwj : IntKind.i64.wrap (j : Int) = (j : Int) := IntWalk.i64_in _ (by omega)
    have hxw0 : IntKind.i64.wrap (x0 : Int) = (x0 : Int) := IntWalk.i64_in _ (by omega)
    have hxw1 : IntKind.i64.wrap (x1 : Int) = (x1 : Int) := IntWalk.i64_in _ (by omega)
    have HIJ : Hid (i ≤ m ∧ j ≤ m) := Lib.hid ⟨him, hjm⟩
    have c0 : (w.alloc (.cells #[.int .u16 (x0 : Nat), .int .u16 (x1 : Nat)] 39)).drew.cell? ⟨w.heap.size, 0, none⟩ = some (.int .u16 (x0 : Nat)) := by rw [show (w.alloc (.cells #[.int .u16 (x0 : Nat), .int .u16 (x1 : Nat)] 39)).drew.cell? ⟨w.heap.size, 0, none⟩ = (w.alloc (.cells #[.int .u16 (x0 : Nat), .int .u16 (x1 : Nat)] 39)).cell? ⟨w.heap.size, 0, none⟩ from rfl, Blk.cell H0.out.2.2]; rfl
    have c1 : (w.alloc (.cells #[.int .u16 (x0 : Nat), .int .u16 (x1 : Nat)] 39)).drew.cell? ⟨w.heap.size, 1, none⟩ = some (.int .u16 (x1 : Nat)) := by rw [show (w.alloc (.cells #[.int .u16 (x0 : Nat), .int .u16 (x1 : Nat)] 39)).drew.cell? ⟨w.heap.size, 1, none⟩ = (w.alloc (.cells #[.int .u16 (x0 : Nat), .int .u16 (x1 : Nat)] 39)).cell? ⟨w.heap.size, 1, none⟩ from rfl, Blk.cell H0.out.2.2]; rfl
    go_wp2_with fail
    have H1 : Hid (Below w.heap.size w (w.alloc (.cells #[.int .u16 (x0 : Nat), .int .u16 (x1 : Nat)] 39)).drew ∧ GV (w.alloc (.cells #[.int .u16 (x0 : Nat), .int .u16 (x1 : Nat)] 39)).drew) := Lib.hid ⟨H0.out.1.drew, H0.out.2.1.drew⟩
    clear H0
    refine still_lit (by kernel_rfl) (by kernel_rfl) ?_
    generalize (w.alloc (.cells #[.int .u16 (x0 : Nat), .int .u16 (x1 : Nat)] 39)).drew = W0 at *
    repeat still_step
    refine wpStill_nil ?_
    clear c0 c1 hti htj hmw hm2 hm3 hm4 hxw0 hxw1 hwi hwj hm1e hi hj
    go_wp2_with fail
    have hP_0 : Below w.heap.size w W0.drew := H1.out.1.drew
    have hG_0 : GV W0.drew := H1.out.2.drew
    clear H1
    have i1 : (i : Int) ≤ (m : Int) := by omega
    have i2 : (i : Int) ≤ (cm : Int) := by omega
    have j1 : (j : Int) ≤ (m : Int) := by omega
    have j2 : (j : Int) ≤ (cm : Int) := by omega
    have i0 : (0 : Int) ≤ (i : Int) := by omega
    have j0 : (0 : Int) ≤ (j : Int) := by omega
    obtain ⟨pi, hpi⟩ : ∃ p, (if cm = i then ob else Option.map (fun x => x.add i) ob) = p := ⟨_, rfl⟩
    obtain ⟨pj, hpj⟩ : ∃ p, (if cm = j then ob else Option.map (fun x => x.add j) ob) = p := ⟨_, rfl⟩
    obtain ⟨M, hM⟩ : ∃ k, m + 8 = k := ⟨_, rfl⟩
    obtain ⟨FX, hFX⟩ : ∃ f, toF i (m - i) B (fun t => B (i + t)) = f := ⟨_, rfl⟩
    obtain ⟨FY, hFY⟩ : ∃ f, toF j (m - j) B (fun t => B (j + t)) = f := ⟨_, rfl⟩
    obtain ⟨X, hX⟩ : ∃ f, (rowC 32 (hmN n K M FX)).toArray = f := ⟨_, rfl⟩
    obtain ⟨Y, hY⟩ : ∃ f, (rowC 32 (hmN n K M FY)).toArray = f := ⟨_, rfl⟩
    obtain ⟨sx, hsx⟩ : ∃ f, strF M FX = f := ⟨_, rfl⟩
    obtain ⟨sy, hsy⟩ : ∃ f, strF M FY = f := ⟨_, rfl⟩
    have HSX := Lib.hid hsx
    have HSY := Lib.hid hsy
    have HCP : Hid (cm ≤ maxLen) := Lib.hid (by unfold maxLen; omega)
    have HTi : Hid (∀ W, Below w.heap.size w W → Calls Tryd.prog 22 #[.slice ob i cm, .slice pi (m - i) (cm - i)] W fun e w'' => ∃ g c, e = .returned (.slice (some ⟨g, 0, none⟩) M c) ∧ Bytes w'' (some ⟨g, 0, none⟩) M FX ∧ M ≤ c ∧ Below W.heap.size W w'') := Lib.hid fun W h => by
      have hh := told_any ob pi i cm (m - i) (cm - i) B (fun t => B (i + t)) W ((HBL.out W h).mono HIJ.out.1) (fun e => by have := HMO.out e; have := HIJ.out; omega) (by have := HIJ.out; have := HN.out; omega) ((HBL.out W h).hi HNC.out.2 HIJ.out.1 hpi) (hi_none (HBL.out W h) HNC.out.2 HIJ.out.1 hpi) (by have := HN.out; omega)
      rw [show 4 + i + 4 + (m - i) = M by have := HIJ.out; omega, hFX] at hh
      exact hh
    have HPi : Hid (∀ W, Below w.heap.size w W → GV W → Calls Tryd.prog 23 #[.slice oa n cn, .slice (some ⟨W.heap.size, 0, none⟩) 2 2] (W.alloc (.cells #[.slice ob i cm, .slice pi (m - i) (cm - i)] 25)) fun e w'' => e = .returned (.agg X) ∧ Below W.heap.size W w'') := Lib.hid fun W h h' => by
      have hba : Below W.heap.size W (W.alloc (.cells #[.slice ob i cm, .slice pi (m - i) (cm - i)] 25)) := (Below.refl _ _).alloc (Nat.le_refl _) _
      have h2 := two_parts (cp := cm) (cq := cm - i) ((HBL.out W h).mono HIJ.out.1) ((HBL.out W h).hi HNC.out.2 HIJ.out.1 hpi) (by have := HIJ.out; have := HNC.out; omega) (by have := HNC.out; omega) (fun e => by have := HMO.out e; have := HIJ.out; omega) (hi_none (HBL.out W h) HNC.out.2 HIJ.out.1 hpi) HCP.out (Nat.le_trans (Nat.sub_le _ _) HCP.out)
      have hh := parts_any oa n cn K _ 2 2 _ _ _ ((HKL.out W h).later hba) HNC.out.1 HNO.out (by have := HN.out; omega) h2 (fun k hk => by unfold twoL; have := HIJ.out; have := HN.out; split <;> omega) (by decide) (by rw [two_len]; have := HIJ.out; have := HN.out; omega) (h'.later hba)
      rw [two_len, two_fun, show 4 + i + 4 + (m - i) = M by have := HIJ.out; omega, hFX, hX] at hh
      exact hh.mono fun e w'' ⟨h1, h2⟩ => ⟨h1, hba.trans (h2.mono hba.size)⟩
    have HMi : Hid (∀ W g c, M ≤ c → Below w.heap.size w W → GV W → Bytes W (some ⟨g, 0, none⟩) M FX → Calls Tryd.prog 21 #[.slice oa n cn, .slice (some ⟨g, 0, none⟩) M c] W fun e w'' => e = .returned (.agg X) ∧ Below W.heap.size W w'') := Lib.hid fun W g c hc h h' hb => by
      rw [← hX]; exact mac_any oa _ n cn M c K FX W (HKL.out W h) HNC.out.1 HNO.out (by have := HN.out; omega) hb hc (by have := HN.out; omega) h'
    have HEi : Hid (∀ w, (Op.equalIn 10000 27 (.agg X) (.agg X)).run Tryd.prog w = .ok true w) := Lib.hid fun w => by
      rw [← hX]; have := eq32 (hmN n K M FX) (hmN n K M FX) w; rw [eqS_refl] at this; exact this
    have HTj : Hid (∀ W, Below w.heap.size w W → Calls Tryd.prog 22 #[.slice ob j cm, .slice pj (m - j) (cm - j)] W fun e w'' => ∃ g c, e = .returned (.slice (some ⟨g, 0, none⟩) M c) ∧ Bytes w'' (some ⟨g, 0, none⟩) M FY ∧ M ≤ c ∧ Below W.heap.size W w'') := Lib.hid fun W h => by
      have hh := told_any ob pj j cm (m - j) (cm - j) B (fun t => B (j + t)) W ((HBL.out W h).mono HIJ.out.2) (fun e => by have := HMO.out e; have := HIJ.out; omega) (by have := HIJ.out; have := HN.out; omega) ((HBL.out W h).hi HNC.out.2 HIJ.out.2 hpj) (hi_none (HBL.out W h) HNC.out.2 HIJ.out.2 hpj) (by have := HN.out; omega)
      rw [show 4 + j + 4 + (m - j) = M by have := HIJ.out; omega, hFY] at hh
      exact hh
    have HPj : Hid (∀ W, Below w.heap.size w W → GV W → Calls Tryd.prog 23 #[.slice oa n cn, .slice (some ⟨W.heap.size, 0, none⟩) 2 2] (W.alloc (.cells #[.slice ob j cm, .slice pj (m - j) (cm - j)] 25)) fun e w'' => e = .returned (.agg Y) ∧ Below W.heap.size W w'') := Lib.hid fun W h h' => by
      have hba : Below W.heap.size W (W.alloc (.cells #[.slice ob j cm, .slice pj (m - j) (cm - j)] 25)) := (Below.refl _ _).alloc (Nat.le_refl _) _
      have h2 := two_parts (cp := cm) (cq := cm - j) ((HBL.out W h).mono HIJ.out.2) ((HBL.out W h).hi HNC.out.2 HIJ.out.2 hpj) (by have := HIJ.out; have := HNC.out; omega) (by have := HNC.out; omega) (fun e => by have := HMO.out e; have := HIJ.out; omega) (hi_none (HBL.out W h) HNC.out.2 HIJ.out.2 hpj) HCP.out (Nat.le_trans (Nat.sub_le _ _) HCP.out)
      have hh := parts_any oa n cn K _ 2 2 _ _ _ ((HKL.out W h).later hba) HNC.out.1 HNO.out (by have := HN.out; omega) h2 (fun k hk => by unfold twoL; have := HIJ.out; have := HN.out; split <;> omega) (by decide) (by rw [two_len]; have := HIJ.out; have := HN.out; omega) (h'.later hba)
      rw [two_len, two_fun, show 4 + j + 4 + (m - j) = M by have := HIJ.out; omega, hFY, hY] at hh
      exact hh.mono fun e w'' ⟨h1, h2⟩ => ⟨h1, hba.trans (h2.mono hba.size)⟩
    have HMj : Hid (∀ W g c, M ≤ c → Below w.heap.size w W → GV W → Bytes W (some ⟨g, 0, none⟩) M FY → Calls Tryd.prog 21 #[.slice oa n cn, .slice (some ⟨g, 0, none⟩) M c] W fun e w'' => e = .returned (.agg Y) ∧ Below W.heap.size W w'') := Lib.hid fun W g c hc h h' hb => by
      rw [← hY]; exact mac_any oa _ n cn M c K FY W (HKL.out W h) HNC.out.1 HNO.out (by have := HN.out; omega) hb hc (by have := HN.out; omega) h'
    have HEj : Hid (∀ w, (Op.equalIn 10000 27 (.agg Y) (.agg Y)).run Tryd.prog w = .ok true w) := Lib.hid fun w => by
      rw [← hY]; have := eq32 (hmN n K M FY) (hmN n K M FY) w; rw [eqS_refl] at this; exact this
    have HNE : Hid (¬ i = j → ¬ sx = sy) := Lib.hid fun hij e => hij (by
      rw [← hsx, ← hsy] at e
      have hB8 : ∀ k, k < m → B k < 256 := fun k hk => (HBL.out w (Below.refl _ _) k hk).1
      have e2 := (strF_inj (fun k hk => by rw [← hFX]; exact toF_lt (fun a ha => hB8 a (by have := HIJ.out; omega)) (fun a ha => hB8 _ (by have := HIJ.out; omega)) k (by have := HIJ.out; omega)) (fun k hk => by rw [← hFY]; exact toF_lt (fun a ha => hB8 a (by have := HIJ.out; omega)) (fun a ha => hB8 _ (by have := HIJ.out; omega)) k (by have := HIJ.out; omega)) e).2
      rw [← hFX, ← hFY] at e2
      exact toF_ne (by have := HIJ.out; have := HN.out; omega) (by have := HIJ.out; have := HN.out; omega) (e2 2 (by omega)) (e2 3 (by omega)))
    have HEE : Hid (i = j → sx = sy) := Lib.hid fun hij => by subst hij; rw [← hsx, ← hsy, ← hFX, ← hFY]
    clear hFX hFY hX hY hsx hsy him hjm hM
    refine wp_region_held_drew (S := (Below w.heap.size w)) (by kernel_rfl) ?_ (fun hHeld => ?_)
    · (try dsimp only)
      first | assumption
    generalize W0.drew = W1 at *
    refine wpAnyH_take (i := 0) (oi := { dst := some 34, op := Go.Op.move (Go.Operand.tmp 1), type := 25, pos := "law.go:67", after := #[], guard := none }) (v := ?_) rfl (by kernel_rfl) (by kernel_rfl) (by kernel_rfl) (fun _ _ _ h => h) (Or.inl ⟨by rfl, ?_⟩) (by assumption) ?_
    rotate_left
    · intro wS hSw
      (try dsimp only at hSw)
      go_simp
      (try with_reducible rfl)
    (try simp only [Act.put, List.setIfInBounds_toArray, List.set_cons_zero, List.set_cons_succ])
    refine wpAnyH_take (i := 1) (oi := { dst := some 35, op := Go.Op.move (Go.Operand.tmp 7), type := 3, pos := "law.go:67", after := #[], guard := none }) (v := ?_) rfl (by kernel_rfl) (by kernel_rfl) (by kernel_rfl) (fun _ _ _ h => h) (Or.inl ⟨by rfl, ?_⟩) (by assumption) ?_
    rotate_left
    · intro wS hSw
      (try dsimp only at hSw)
      go_simp
      (try with_reducible rfl)
    (try simp only [Act.put, List.setIfInBounds_toArray, List.set_cons_zero, List.set_cons_succ])
    refine wpAnyH_take (i := 2) (oi := { dst := some 36, op := Go.Op.slice 25 (Go.Operand.tmp 34) none (some (Go.Operand.tmp 35)) none, type := 25, pos := "law.go:67", after := #[{ on := 0, ground := Go.Ground.data }, { on := 1, ground := Go.Ground.data }], guard := none }) (v := ?_) rfl (by kernel_rfl) (by kernel_rfl) (by kernel_rfl) (fun _ _ _ h => h) (Or.inl ⟨by rfl, ?_⟩) (by assumption) ?_
    rotate_left
    · intro wS hSw
      (try dsimp only at hSw)
      go_simp
      (try with_reducible rfl)
    (try simp only [Act.put, List.setIfInBounds_toArray, List.set_cons_zero, List.set_cons_succ])
    refine wpAnyH_take (i := 3) (oi := { dst := some 37, op := Go.Op.move (Go.Operand.tmp 1), type := 25, pos := "law.go:67", after := #[], guard := none }) (v := ?_) rfl (by kernel_rfl) (by kernel_rfl) (by kernel_rfl) (fun _ _ _ h => h) (Or.inl ⟨by rfl, ?_⟩) (by assumption) ?_
    rotate_left
    · intro wS hSw
      (try dsimp only at hSw)
      go_simp
      (try with_reducible rfl)
    (try simp only [Act.put, List.setIfInBounds_toArray, List.set_cons_zero, List.set_cons_succ])
    refine wpAnyH_take (i := 4) (oi := { dst := some 38, op := Go.Op.move (Go.Operand.tmp 7), type := 3, pos := "law.go:67", after := #[], guard := none }) (v := ?_) rfl (by kernel_rfl) (by kernel_rfl) (by kernel_rfl) (fun _ _ _ h => h) (Or.inl ⟨by rfl, ?_⟩) (by assumption) ?_
    rotate_left
    · intro wS hSw
      (try dsimp only at hSw)
      go_simp
      (try with_reducible rfl)
    (try simp only [Act.put, List.setIfInBounds_toArray, List.set_cons_zero, List.set_cons_succ])
    refine wpAnyH_take (i := 5) (oi := { dst := some 39, op := Go.Op.slice 25 (Go.Operand.tmp 37) (some (Go.Operand.tmp 38)) none none, type := 25, pos := "law.go:67", after := #[{ on := 3, ground := Go.Ground.data }, { on := 4, ground := Go.Ground.data }], guard := none }) (v := ?_) rfl (by kernel_rfl) (by kernel_rfl) (by kernel_rfl) (fun _ _ _ h => h) (Or.inl ⟨by rfl, ?_⟩) (by assumption) ?_
    rotate_left
    · intro wS hSw
      (try dsimp only at hSw)
      go_simp
      (try with_reducible rfl)
    (try simp only [Act.put, List.setIfInBounds_toArray, List.set_cons_zero, List.set_cons_succ])
    refine wpAnyH_take (i := 7) (oi := { dst := some 41, op := Go.Op.move (Go.Operand.tmp 1), type := 25, pos := "law.go:67", after := #[], guard := none }) (v := ?_) rfl (by kernel_rfl) (by kernel_rfl) (by kernel_rfl) (fun _ _ _ h => h) (Or.inl ⟨by rfl, ?_⟩) (by assumption) ?_
    rotate_left
    · intro wS hSw
      (try dsimp only at hSw)
      go_simp
      (try with_reducible rfl)
    (try simp only [Act.put, List.setIfInBounds_toArray, List.set_cons_zero, List.set_cons_succ])
    refine wpAnyH_take (i := 8) (oi := { dst := some 42, op := Go.Op.move (Go.Operand.tmp 8), type := 3, pos := "law.go:67", after := #[], guard := none }) (v := ?_) rfl (by kernel_rfl) (by kernel_rfl) (by kernel_rfl) (fun _ _ _ h => h) (Or.inl ⟨by rfl, ?_⟩) (by assumption) ?_
    rotate_left
    · intro wS hSw
      (try dsimp only at hSw)
      go_simp
      (try with_reducible rfl)
    (try simp only [Act.put, List.setIfInBounds_toArray, List.set_cons_zero, List.set_cons_succ])
    refine wpAnyH_take (i := 9) (oi := { dst := some 43, op := Go.Op.slice 25 (Go.Operand.tmp 41) none (some (Go.Operand.tmp 42)) none, type := 25, pos := "law.go:67", after := #[{ on := 7, ground := Go.Ground.data }, { on := 8, ground := Go.Ground.data }], guard := none }) (v := ?_) rfl (by kernel_rfl) (by kernel_rfl) (by kernel_rfl) (fun _ _ _ h => h) (Or.inl ⟨by rfl, ?_⟩) (by assumption) ?_
    rotate_left
    · intro wS hSw
      (try dsimp only at hSw)
      go_simp
      (try with_reducible rfl)
    (try simp only [Act.put, List.setIfInBounds_toArray, List.set_cons_zero, List.set_cons_succ])
    refine wpAnyH_take (i := 10) (oi := { dst := some 44, op := Go.Op.move (Go.Operand.tmp 1), type := 25, pos := "law.go:67", after := #[], guard := none }) (v := ?_) rfl (by kernel_rfl) (by kernel_rfl) (by kernel_rfl) (fun _ _ _ h => h) (Or.inl ⟨by rfl, ?_⟩) (by assumption) ?_
    rotate_left
    · intro wS hSw
      (try dsimp only at hSw)
      go_simp
      (try with_reducible rfl)
    (try simp only [Act.put, List.setIfInBounds_toArray, List.set_cons_zero, List.set_cons_succ])
    refine wpAnyH_take (i := 11) (oi := { dst := some 45, op := Go.Op.move (Go.Operand.tmp 8), type := 3, pos := "law.go:67", after := #[], guard := none }) (v := ?_) rfl (by kernel_rfl) (by kernel_rfl) (by kernel_rfl) (fun _ _ _ h => h) (Or.inl ⟨by rfl, ?_⟩) (by assumption) ?_
    rotate_left
    · intro wS hSw
      (try dsimp only at hSw)
      go_simp
      (try with_reducible rfl)
    (try simp only [Act.put, List.setIfInBounds_toArray, List.set_cons_zero, List.set_cons_succ])
    refine wpAnyH_take (i := 12) (oi := { dst := some 46, op := Go.Op.slice 25 (Go.Operand.tmp 44) (some (Go.Operand.tmp 45)) none none, type := 25, pos := "law.go:67", after := #[{ on := 10, ground := Go.Ground.data }, { on := 11, ground := Go.Ground.data }], guard := none }) (v := ?_) rfl (by kernel_rfl) (by kernel_rfl) (by kernel_rfl) (fun _ _ _ h => h) (Or.inl ⟨by rfl, ?_⟩) (by assumption) ?_
    rotate_left
    · intro wS hSw
      (try dsimp only at hSw)
      go_simp
      (try with_reducible rfl)
    (try simp only [Act.put, List.setIfInBounds_toArray, List.set_cons_zero, List.set_cons_succ])
    refine wpAnyH_ready (rs := [6]) (by kernel_rfl) (by simp) ?_
    refine AllReadyH.cons (o := { dst := some 40, op := Go.Op.call { callee := Go.Callee.value (Go.Operand.func 22), args := #[Go.Operand.tmp 36, Go.Operand.tmp 39], argTypes := #[25, 25] }, type := 25, pos := "law.go:67", after := #[{ on := 2, ground := Go.Ground.data }, { on := 5, ground := Go.Ground.data }], guard := none }) rfl (fun K hK => ?_) AllReadyH.nil
    go_simp
    (refine (HTi.out _ hP_0).mono ?_; rintro e v_1 ⟨gx, cx, rfl, hX_1, hcx, hb_1⟩; have HCX := Lib.hid hcx; have hP_1 := hP_0.trans (hb_1.mono hP_0.size); have hG_1 := hG_0.later hb_1; clear hcx hb_1 hP_0 hG_0; skip)
    (try go_wp2_with fail)
    refine hK.out _ _ ?_ (fun hHeld => ?_)
    · (try dsimp only)
      first | assumption
    clear hK K
    (try simp only [Act.put, List.setIfInBounds_toArray, List.set_cons_zero, List.set_cons_succ])
    refine wpAnyH_ready (rs := [13]) (by kernel_rfl) (by simp) ?_
    refine AllReadyH.cons (o := { dst := some 47, op := Go.Op.call { callee := Go.Callee.value (Go.Operand.func 22), args := #[Go.Operand.tmp 43, Go.Operand.tmp 46], argTypes := #[25, 25] }, type := 25, pos := "law.go:67", after := #[{ on := 9, ground := Go.Ground.data }, { on := 12, ground := Go.Ground.data }, { on := 6, ground := Go.Ground.chain }], guard := none }) rfl (fun K hK => ?_) AllReadyH.nil
    go_simp
    (refine (HTj.out _ hP_1).mono ?_; rintro e v_2 ⟨gy, cy, rfl, hY_2, hcy, hb_2⟩; have HCY := Lib.hid hcy; have hX_2 := hX_1.later hb_2; have hP_2 := hP_1.trans (hb_2.mono hP_1.size); have hG_2 := hG_1.later hb_2; clear hcy hb_2 hP_1 hG_1 hX_1; skip)
    (try go_wp2_with fail)
    refine hK.out _ _ ?_ (fun hHeld => ?_)
    · (try dsimp only)
      first | assumption
    clear hK K
    (try simp only [Act.put, List.setIfInBounds_toArray, List.set_cons_zero, List.set_cons_succ])
    refine wpAnyH_take (i := 14) (oi := { dst := some 9, op := Go.Op.assign (Go.Operand.tmp 40), type := 25, pos := "law.go:67", after := #[{ on := 6, ground := Go.Ground.data }, { on := 13, ground := Go.Ground.chain }, { on := 0, ground := Go.Ground.phase }, { on := 1, ground := Go.Ground.phase }, { on := 2, ground := Go.Ground.phase }, { on := 3, ground := Go.Ground.phase }, { on := 4, ground := Go.Ground.phase }, { on := 5, ground := Go.Ground.phase }, { on := 6, ground := Go.Ground.phase }, { on := 7, ground := Go.Ground.textOnly Go.Departure.lateStores }, { on := 8, ground := Go.Ground.textOnly Go.Departure.lateStores }, { on := 9, ground := Go.Ground.textOnly Go.Departure.lateStoresUnsure }, { on := 10, ground := Go.Ground.textOnly Go.Departure.lateStores }, { on := 11, ground := Go.Ground.textOnly Go.Departure.lateStores }, { on := 12, ground := Go.Ground.textOnly Go.Departure.lateStoresUnsure }, { on := 13, ground := Go.Ground.textOnly Go.Departure.lateStoresUnsure }], guard := none }) (v := ?_) rfl (by kernel_rfl) (by kernel_rfl) (by kernel_rfl) (fun _ _ _ h => h) (Or.inl ⟨by rfl, ?_⟩) (by assumption) ?_
    rotate_left
    · intro wS hSw
      (try dsimp only at hSw)
      go_simp
      (try with_reducible rfl)
    (try simp only [Act.put, List.setIfInBounds_toArray, List.set_cons_zero, List.set_cons_succ])
    refine wpAnyH_take (i := 15) (oi := { dst := some 10, op := Go.Op.assign (Go.Operand.tmp 47), type := 25, pos := "law.go:67", after := #[{ on := 13, ground := Go.Ground.data }, { on := 14, ground := Go.Ground.chain }, { on := 0, ground := Go.Ground.phase }, { on := 1, ground := Go.Ground.phase }, { on := 2, ground := Go.Ground.phase }, { on := 3, ground := Go.Ground.phase }, { on := 4, ground := Go.Ground.phase }, { on := 5, ground := Go.Ground.phase }, { on := 6, ground := Go.Ground.phase }, { on := 7, ground := Go.Ground.phase }, { on := 8, ground := Go.Ground.phase }, { on := 9, ground := Go.Ground.phase }, { on := 10, ground := Go.Ground.phase }, { on := 11, ground := Go.Ground.phase }, { on := 12, ground := Go.Ground.phase }, { on := 13, ground := Go.Ground.phase }, { on := 14, ground := Go.Ground.phase }], guard := none }) (v := ?_) rfl (by kernel_rfl) (by kernel_rfl) (by kernel_rfl) (fun _ _ _ h => h) (Or.inl ⟨by rfl, ?_⟩) (by assumption) ?_
    rotate_left
    · intro wS hSw
      (try dsimp only at hSw)
      go_simp
      (try with_reducible rfl)
    (try simp only [Act.put, List.setIfInBounds_toArray, List.set_cons_zero, List.set_cons_succ])
    refine wpAnyH_done (by kernel_rfl) ?_ _
    have H2 : Hid (Below w.heap.size w v_2 ∧ GV v_2 ∧ SXY gx gy M FX FY v_2) := Lib.hid ⟨hP_2, hG_2, hX_2, hY_2⟩
    clear hP_2 hG_2 hX_2 hY_2
    go_wp2_with fail
    have hP_0 : Below w.heap.size w v_2.drew := H2.out.1.drew
    have hG_0 : GV v_2.drew := H2.out.2.1.drew
    have hS_0 : SXY gx gy M FX FY v_2.drew := H2.out.2.2
    clear H2
    by_cases hij : i = j
    · have hss := HEE.out
      replace hss := hss hij
      subst hij
      subst hss
      obtain rfl : pi = pj := hpi.symm.trans hpj
      refine wp_region_held_drew (S := (SXY gx gy M FX FY)) (by kernel_rfl) ?_ (fun hHeld => ?_)
      · (try dsimp only)
        first | assumption
      generalize v_2.drew = W2 at *
      refine wpAnyH_take (i := 0) (oi := { dst := some 48, op := Go.Op.move (Go.Operand.tmp 0), type := 25, pos := "law.go:68", after := #[], guard := none }) (v := ?_) rfl (by kernel_rfl) (by kernel_rfl) (by kernel_rfl) (fun _ _ _ h => h) (Or.inl ⟨by rfl, ?_⟩) (by assumption) ?_
      rotate_left
      · intro wS hSw
        (try dsimp only at hSw)
        go_simp
        (try with_reducible rfl)
      (try simp only [Act.put, List.setIfInBounds_toArray, List.set_cons_zero, List.set_cons_succ])
      refine wpAnyH_take (i := 1) (oi := { dst := some 49, op := Go.Op.move (Go.Operand.tmp 1), type := 25, pos := "law.go:68", after := #[], guard := none }) (v := ?_) rfl (by kernel_rfl) (by kernel_rfl) (by kernel_rfl) (fun _ _ _ h => h) (Or.inl ⟨by rfl, ?_⟩) (by assumption) ?_
      rotate_left
      · intro wS hSw
        (try dsimp only at hSw)
        go_simp
        (try with_reducible rfl)
      (try simp only [Act.put, List.setIfInBounds_toArray, List.set_cons_zero, List.set_cons_succ])
      refine wpAnyH_take (i := 2) (oi := { dst := some 50, op := Go.Op.move (Go.Operand.tmp 7), type := 3, pos := "law.go:68", after := #[], guard := none }) (v := ?_) rfl (by kernel_rfl) (by kernel_rfl) (by kernel_rfl) (fun _ _ _ h => h) (Or.inl ⟨by rfl, ?_⟩) (by assumption) ?_
      rotate_left
      · intro wS hSw
        (try dsimp only at hSw)
        go_simp
        (try with_reducible rfl)
      (try simp only [Act.put, List.setIfInBounds_toArray, List.set_cons_zero, List.set_cons_succ])
      refine wpAnyH_take (i := 3) (oi := { dst := some 51, op := Go.Op.slice 25 (Go.Operand.tmp 49) none (some (Go.Operand.tmp 50)) none, type := 25, pos := "law.go:68", after := #[{ on := 1, ground := Go.Ground.data }, { on := 2, ground := Go.Ground.data }], guard := none }) (v := ?_) rfl (by kernel_rfl) (by kernel_rfl) (by kernel_rfl) (fun _ _ _ h => h) (Or.inl ⟨by rfl, ?_⟩) (by assumption) ?_
      rotate_left
      · intro wS hSw
        (try dsimp only at hSw)
        go_simp
        (try with_reducible rfl)
      (try simp only [Act.put, List.setIfInBounds_toArray, List.set_cons_zero, List.set_cons_succ])
      refine wpAnyH_take (i := 4) (oi := { dst := some 52, op := Go.Op.move (Go.Operand.tmp 1), type := 25, pos := "law.go:68", after := #[], guard := none }) (v := ?_) rfl (by kernel_rfl) (by kernel_rfl) (by kernel_rfl) (fun _ _ _ h => h) (Or.inl ⟨by rfl, ?_⟩) (by assumption) ?_
      rotate_left
      · intro wS hSw
        (try dsimp only at hSw)
        go_simp
        (try with_reducible rfl)
      (try simp only [Act.put, List.setIfInBounds_toArray, List.set_cons_zero, List.set_cons_succ])
      refine wpAnyH_take (i := 5) (oi := { dst := some 53, op := Go.Op.move (Go.Operand.tmp 7), type := 3, pos := "law.go:68", after := #[], guard := none }) (v := ?_) rfl (by kernel_rfl) (by kernel_rfl) (by kernel_rfl) (fun _ _ _ h => h) (Or.inl ⟨by rfl, ?_⟩) (by assumption) ?_
      rotate_left
      · intro wS hSw
        (try dsimp only at hSw)
        go_simp
        (try with_reducible rfl)
      (try simp only [Act.put, List.setIfInBounds_toArray, List.set_cons_zero, List.set_cons_succ])
      refine wpAnyH_take (i := 6) (oi := { dst := some 54, op := Go.Op.slice 25 (Go.Operand.tmp 52) (some (Go.Operand.tmp 53)) none none, type := 25, pos := "law.go:68", after := #[{ on := 4, ground := Go.Ground.data }, { on := 5, ground := Go.Ground.data }], guard := none }) (v := ?_) rfl (by kernel_rfl) (by kernel_rfl) (by kernel_rfl) (fun _ _ _ h => h) (Or.inl ⟨by rfl, ?_⟩) (by assumption) ?_
      rotate_left
      · intro wS hSw
        (try dsimp only at hSw)
        go_simp
        (try with_reducible rfl)
      (try simp only [Act.put, List.setIfInBounds_toArray, List.set_cons_zero, List.set_cons_succ])
      refine wpAnyH_take (i := 9) (oi := { dst := some 57, op := Go.Op.move (Go.Operand.tmp 0), type := 25, pos := "law.go:68", after := #[], guard := none }) (v := ?_) rfl (by kernel_rfl) (by kernel_rfl) (by kernel_rfl) (fun _ _ _ h => h) (Or.inl ⟨by rfl, ?_⟩) (by assumption) ?_
      rotate_left
      · intro wS hSw
        (try dsimp only at hSw)
        go_simp
        (try with_reducible rfl)
      (try simp only [Act.put, List.setIfInBounds_toArray, List.set_cons_zero, List.set_cons_succ])
      refine wpAnyH_take (i := 10) (oi := { dst := some 58, op := Go.Op.move (Go.Operand.tmp 9), type := 25, pos := "law.go:68", after := #[], guard := none }) (v := ?_) rfl (by kernel_rfl) (by kernel_rfl) (by kernel_rfl) (fun _ _ _ h => h) (Or.inl ⟨by rfl, ?_⟩) (by assumption) ?_
      rotate_left
      · intro wS hSw
        (try dsimp only at hSw)
        go_simp
        (try with_reducible rfl)
      (try simp only [Act.put, List.setIfInBounds_toArray, List.set_cons_zero, List.set_cons_succ])
      refine wpAnyH_ready (rs := [7]) (by kernel_rfl) (by simp) ?_
      refine AllReadyH.cons (o := { dst := some 55, op := Go.Op.buildSlice 22 2 #[(0, Go.Operand.tmp 51), (1, Go.Operand.tmp 54)], type := 22, pos := "law.go:68", after := #[{ on := 3, ground := Go.Ground.data }, { on := 6, ground := Go.Ground.data }], guard := none }) rfl (fun K hK => ?_) AllReadyH.nil
      go_simp
      (have hS_3 := hS_0.below (w' := (W2.alloc (.cells #[.slice ob i cm, .slice pi (m - i) (cm - i)] 25))) ((Below.refl _ _).alloc (Nat.le_refl _) _); skip)
      (try go_wp2_with fail)
      refine hK.out _ _ ?_ (fun hHeld => ?_)
      · (try dsimp only)
        first | assumption
      clear hK K
      (try simp only [Act.put, List.setIfInBounds_toArray, List.set_cons_zero, List.set_cons_succ])
      refine wpAnyH_ready (rs := [8]) (by kernel_rfl) (by simp) ?_
      refine AllReadyH.cons (o := { dst := some 56, op := Go.Op.call { callee := Go.Callee.value (Go.Operand.func 23), args := #[Go.Operand.tmp 48, Go.Operand.tmp 55], argTypes := #[25, 22] }, type := 27, pos := "law.go:68", after := #[{ on := 0, ground := Go.Ground.data }, { on := 7, ground := Go.Ground.data }], guard := none }) rfl (fun K hK => ?_) AllReadyH.nil
      go_simp
      (refine (HPi.out W2 hP_0 hG_0).mono ?_; rintro e v_4 ⟨rfl, hb_4⟩; have hS_4 := hS_0.below hb_4; have hP_4 := hP_0.trans (hb_4.mono hP_0.size); have hG_4 := hG_0.later hb_4; clear hS_3; clear hb_4 hS_0 hP_0 hG_0; skip)
      (try go_wp2_with fail)
      refine hK.out _ _ ?_ (fun hHeld => ?_)
      · (try dsimp only)
        first | assumption
      clear hK K
      (try simp only [Act.put, List.setIfInBounds_toArray, List.set_cons_zero, List.set_cons_succ])
      refine wpAnyH_ready (rs := [11]) (by kernel_rfl) (by simp) ?_
      refine AllReadyH.cons (o := { dst := some 59, op := Go.Op.call { callee := Go.Callee.value (Go.Operand.func 21), args := #[Go.Operand.tmp 57, Go.Operand.tmp 58], argTypes := #[25, 25] }, type := 27, pos := "law.go:68", after := #[{ on := 9, ground := Go.Ground.data }, { on := 10, ground := Go.Ground.data }, { on := 8, ground := Go.Ground.chain }], guard := none }) rfl (fun K hK => ?_) AllReadyH.nil
      go_simp
      (refine (HMi.out _ gx cx HCX.out hP_4 hG_4 hS_4.1).mono ?_; rintro e v_5 ⟨rfl, hb_5⟩; have hS_5 := hS_4.below hb_5; have hP_5 := hP_4.trans (hb_5.mono hP_4.size); have hG_5 := hG_4.later hb_5; clear hb_5 hS_4 hP_4 hG_4; skip)
      (try go_wp2_with fail)
      refine hK.out _ _ ?_ (fun hHeld => ?_)
      · (try dsimp only)
        first | assumption
      clear hK K
      (try simp only [Act.put, List.setIfInBounds_toArray, List.set_cons_zero, List.set_cons_succ])
      refine wpAnyH_take (i := 12) (oi := { dst := some 60, op := Go.Op.binOp Go.BinOp.eql 27 (Go.Operand.tmp 56) (Go.Operand.tmp 59) 27, type := 4, pos := "law.go:68", after := #[{ on := 8, ground := Go.Ground.data }, { on := 11, ground := Go.Ground.data }], guard := none }) (v := ?_) rfl (by kernel_rfl) (by kernel_rfl) (by kernel_rfl) (fun _ _ _ h => h) (Or.inl ⟨by rfl, ?_⟩) (by assumption) ?_
      rotate_left
      · intro wS hSw
        refine exec_eql32 (r := 27) (x := .tmp 56) (y := .tmp 59) ?_ ?_ ?_ HEi.out <;> rfl
      (try simp only [Act.put, List.setIfInBounds_toArray, List.set_cons_zero, List.set_cons_succ])
      refine wpAnyH_take (i := 13) (oi := { dst := some 61, op := Go.Op.move (Go.Operand.tmp 60), type := 4, pos := "law.go:68", after := #[{ on := 12, ground := Go.Ground.data }, { on := 11, ground := Go.Ground.chain }], guard := none }) (v := ?_) rfl (by kernel_rfl) (by kernel_rfl) (by kernel_rfl) (fun _ _ _ h => h) (Or.inl ⟨by rfl, ?_⟩) (by assumption) ?_
      rotate_left
      · intro wS hSw
        (try dsimp only at hSw)
        go_simp
        (try with_reducible rfl)
      (try simp only [Act.put, List.setIfInBounds_toArray, List.set_cons_zero, List.set_cons_succ])
      refine wpAnyH_take (i := 14) (oi := { dst := some 62, op := Go.Op.move (Go.Operand.tmp 0), type := 25, pos := "law.go:68", after := #[{ on := 13, ground := Go.Ground.guard }], guard := some (13, true) }) (v := ?_) rfl (by kernel_rfl) (by kernel_rfl) (by kernel_rfl) (fun _ _ _ h => h) (Or.inl ⟨by rfl, ?_⟩) (by assumption) ?_
      rotate_left
      · intro wS hSw
        (try dsimp only at hSw)
        go_simp
        (try with_reducible rfl)
      (try simp only [Act.put, List.setIfInBounds_toArray, List.set_cons_zero, List.set_cons_succ])
      refine wpAnyH_take (i := 15) (oi := { dst := some 63, op := Go.Op.move (Go.Operand.tmp 1), type := 25, pos := "law.go:68", after := #[{ on := 13, ground := Go.Ground.guard }], guard := some (13, true) }) (v := ?_) rfl (by kernel_rfl) (by kernel_rfl) (by kernel_rfl) (fun _ _ _ h => h) (Or.inl ⟨by rfl, ?_⟩) (by assumption) ?_
      rotate_left
      · intro wS hSw
        (try dsimp only at hSw)
        go_simp
        (try with_reducible rfl)
      (try simp only [Act.put, List.setIfInBounds_toArray, List.set_cons_zero, List.set_cons_succ])
      refine wpAnyH_take (i := 16) (oi := { dst := some 64, op := Go.Op.move (Go.Operand.tmp 8), type := 3, pos := "law.go:68", after := #[{ on := 13, ground := Go.Ground.guard }], guard := some (13, true) }) (v := ?_) rfl (by kernel_rfl) (by kernel_rfl) (by kernel_rfl) (fun _ _ _ h => h) (Or.inl ⟨by rfl, ?_⟩) (by assumption) ?_
      rotate_left
      · intro wS hSw
        (try dsimp only at hSw)
        go_simp
        (try with_reducible rfl)
      (try simp only [Act.put, List.setIfInBounds_toArray, List.set_cons_zero, List.set_cons_succ])
      refine wpAnyH_take (i := 17) (oi := { dst := some 65, op := Go.Op.slice 25 (Go.Operand.tmp 63) none (some (Go.Operand.tmp 64)) none, type := 25, pos := "law.go:68", after := #[{ on := 15, ground := Go.Ground.data }, { on := 16, ground := Go.Ground.data }, { on := 13, ground := Go.Ground.guard }], guard := some (13, true) }) (v := ?_) rfl (by kernel_rfl) (by kernel_rfl) (by kernel_rfl) (fun _ _ _ h => h) (Or.inl ⟨by rfl, ?_⟩) (by assumption) ?_
      rotate_left
      · intro wS hSw
        (try dsimp only at hSw)
        go_simp
        (try with_reducible rfl)
      (try simp only [Act.put, List.setIfInBounds_toArray, List.set_cons_zero, List.set_cons_succ])
      refine wpAnyH_take (i := 18) (oi := { dst := some 66, op := Go.Op.move (Go.Operand.tmp 1), type := 25, pos := "law.go:68", after := #[{ on := 13, ground := Go.Ground.guard }], guard := some (13, true) }) (v := ?_) rfl (by kernel_rfl) (by kernel_rfl) (by kernel_rfl) (fun _ _ _ h => h) (Or.inl ⟨by rfl, ?_⟩) (by assumption) ?_
      rotate_left
      · intro wS hSw
        (try dsimp only at hSw)
        go_simp
        (try with_reducible rfl)
      (try simp only [Act.put, List.setIfInBounds_toArray, List.set_cons_zero, List.set_cons_succ])
      refine wpAnyH_take (i := 19) (oi := { dst := some 67, op := Go.Op.move (Go.Operand.tmp 8), type := 3, pos := "law.go:68", after := #[{ on := 13, ground := Go.Ground.guard }], guard := some (13, true) }) (v := ?_) rfl (by kernel_rfl) (by kernel_rfl) (by kernel_rfl) (fun _ _ _ h => h) (Or.inl ⟨by rfl, ?_⟩) (by assumption) ?_
      rotate_left
      · intro wS hSw
        (try dsimp only at hSw)
        go_simp
        (try with_reducible rfl)
      (try simp only [Act.put, List.setIfInBounds_toArray, List.set_cons_zero, List.set_cons_succ])
      refine wpAnyH_take (i := 20) (oi := { dst := some 68, op := Go.Op.slice 25 (Go.Operand.tmp 66) (some (Go.Operand.tmp 67)) none none, type := 25, pos := "law.go:68", after := #[{ on := 18, ground := Go.Ground.data }, { on := 19, ground := Go.Ground.data }, { on := 13, ground := Go.Ground.guard }], guard := some (13, true) }) (v := ?_) rfl (by kernel_rfl) (by kernel_rfl) (by kernel_rfl) (fun _ _ _ h => h) (Or.inl ⟨by rfl, ?_⟩) (by assumption) ?_
      rotate_left
      · intro wS hSw
        (try dsimp only at hSw)
        go_simp
        (try with_reducible rfl)
      (try simp only [Act.put, List.setIfInBounds_toArray, List.set_cons_zero, List.set_cons_succ])
      refine wpAnyH_take (i := 23) (oi := { dst := some 71, op := Go.Op.move (Go.Operand.tmp 0), type := 25, pos := "law.go:68", after := #[{ on := 13, ground := Go.Ground.guard }], guard := some (13, true) }) (v := ?_) rfl (by kernel_rfl) (by kernel_rfl) (by kernel_rfl) (fun _ _ _ h => h) (Or.inl ⟨by rfl, ?_⟩) (by assumption) ?_
      rotate_left
      · intro wS hSw
        (try dsimp only at hSw)
        go_simp
        (try with_reducible rfl)
      (try simp only [Act.put, List.setIfInBounds_toArray, List.set_cons_zero, List.set_cons_succ])
      refine wpAnyH_take (i := 24) (oi := { dst := some 72, op := Go.Op.move (Go.Operand.tmp 10), type := 25, pos := "law.go:68", after := #[{ on := 13, ground := Go.Ground.guard }], guard := some (13, true) }) (v := ?_) rfl (by kernel_rfl) (by kernel_rfl) (by kernel_rfl) (fun _ _ _ h => h) (Or.inl ⟨by rfl, ?_⟩) (by assumption) ?_
      rotate_left
      · intro wS hSw
        (try dsimp only at hSw)
        go_simp
        (try with_reducible rfl)
      (try simp only [Act.put, List.setIfInBounds_toArray, List.set_cons_zero, List.set_cons_succ])
      refine wpAnyH_ready (rs := [21]) (by kernel_rfl) (by simp) ?_
      refine AllReadyH.cons (o := { dst := some 69, op := Go.Op.buildSlice 22 2 #[(0, Go.Operand.tmp 65), (1, Go.Operand.tmp 68)], type := 22, pos := "law.go:68", after := #[{ on := 17, ground := Go.Ground.data }, { on := 20, ground := Go.Ground.data }, { on := 13, ground := Go.Ground.guard }], guard := some (13, true) }) rfl (fun K hK => ?_) AllReadyH.nil
      go_simp
      (have hS_6 := hS_5.below (w' := (v_5.alloc (.cells #[.slice ob i cm, .slice pi (m - i) (cm - i)] 25))) ((Below.refl _ _).alloc (Nat.le_refl _) _); skip)
      (try go_wp2_with fail)
      refine hK.out _ _ ?_ (fun hHeld => ?_)
      · (try dsimp only)
        first | assumption
      clear hK K
      (try simp only [Act.put, List.setIfInBounds_toArray, List.set_cons_zero, List.set_cons_succ])
      refine wpAnyH_ready (rs := [22]) (by kernel_rfl) (by simp) ?_
      refine AllReadyH.cons (o := { dst := some 70, op := Go.Op.call { callee := Go.Callee.value (Go.Operand.func 23), args := #[Go.Operand.tmp 62, Go.Operand.tmp 69], argTypes := #[25, 22] }, type := 27, pos := "law.go:68", after := #[{ on := 14, ground := Go.Ground.data }, { on := 21, ground := Go.Ground.data }, { on := 13, ground := Go.Ground.chain }, { on := 13, ground := Go.Ground.guard }], guard := some (13, true) }) rfl (fun K hK => ?_) AllReadyH.nil
      go_simp
      (refine (HPj.out v_5 hP_5 hG_5).mono ?_; rintro e v_7 ⟨rfl, hb_7⟩; have hS_7 := hS_5.below hb_7; have hP_7 := hP_5.trans (hb_7.mono hP_5.size); have hG_7 := hG_5.later hb_7; clear hS_6; clear hb_7 hS_5 hP_5 hG_5; skip)
      (try go_wp2_with fail)
      refine hK.out _ _ ?_ (fun hHeld => ?_)
      · (try dsimp only)
        first | assumption
      clear hK K
      (try simp only [Act.put, List.setIfInBounds_toArray, List.set_cons_zero, List.set_cons_succ])
      refine wpAnyH_ready (rs := [25]) (by kernel_rfl) (by simp) ?_
      refine AllReadyH.cons (o := { dst := some 73, op := Go.Op.call { callee := Go.Callee.value (Go.Operand.func 21), args := #[Go.Operand.tmp 71, Go.Operand.tmp 72], argTypes := #[25, 25] }, type := 27, pos := "law.go:68", after := #[{ on := 23, ground := Go.Ground.data }, { on := 24, ground := Go.Ground.data }, { on := 22, ground := Go.Ground.chain }, { on := 13, ground := Go.Ground.guard }], guard := some (13, true) }) rfl (fun K hK => ?_) AllReadyH.nil
      go_simp
      (refine (HMj.out _ gy cy HCY.out hP_7 hG_7 hS_7.2).mono ?_; rintro e v_8 ⟨rfl, hb_8⟩; have hS_8 := hS_7.below hb_8; have hP_8 := hP_7.trans (hb_8.mono hP_7.size); have hG_8 := hG_7.later hb_8; clear hb_8 hS_7 hP_7 hG_7; skip)
      (try go_wp2_with fail)
      refine hK.out _ _ ?_ (fun hHeld => ?_)
      · (try dsimp only)
        first | assumption
      clear hK K
      (try simp only [Act.put, List.setIfInBounds_toArray, List.set_cons_zero, List.set_cons_succ])
      refine wpAnyH_take (i := 26) (oi := { dst := some 74, op := Go.Op.binOp Go.BinOp.eql 27 (Go.Operand.tmp 70) (Go.Operand.tmp 73) 27, type := 4, pos := "law.go:68", after := #[{ on := 22, ground := Go.Ground.data }, { on := 25, ground := Go.Ground.data }, { on := 13, ground := Go.Ground.guard }], guard := some (13, true) }) (v := ?_) rfl (by kernel_rfl) (by kernel_rfl) (by kernel_rfl) (fun _ _ _ h => h) (Or.inl ⟨by rfl, ?_⟩) (by assumption) ?_
      rotate_left
      · intro wS hSw
        refine exec_eql32 (r := 27) (x := .tmp 70) (y := .tmp 73) ?_ ?_ ?_ HEj.out <;> rfl
      (try simp only [Act.put, List.setIfInBounds_toArray, List.set_cons_zero, List.set_cons_succ])
      refine wpAnyH_take (i := 27) (oi := { dst := some 75, op := Go.Op.pick (Go.Operand.tmp 61) (Go.Operand.tmp 74) (Go.Operand.const (Go.Value.bool false)), type := 4, pos := "law.go:68", after := #[{ on := 13, ground := Go.Ground.data }, { on := 26, ground := Go.Ground.data }], guard := none }) (v := ?_) rfl (by kernel_rfl) (by kernel_rfl) (by kernel_rfl) (fun _ _ _ h => h) (Or.inl ⟨by rfl, ?_⟩) (by assumption) ?_
      rotate_left
      · intro wS hSw
        (try dsimp only at hSw)
        go_simp
        (try with_reducible rfl)
      (try simp only [Act.put, List.setIfInBounds_toArray, List.set_cons_zero, List.set_cons_succ])
      refine wpAnyH_take (i := 28) (oi := { dst := some 76, op := Go.Op.move (Go.Operand.tmp 75), type := 4, pos := "law.go:68", after := #[{ on := 27, ground := Go.Ground.data }, { on := 25, ground := Go.Ground.chain }], guard := none }) (v := ?_) rfl (by kernel_rfl) (by kernel_rfl) (by kernel_rfl) (fun _ _ _ h => h) (Or.inl ⟨by rfl, ?_⟩) (by assumption) ?_
      rotate_left
      · intro wS hSw
        (try dsimp only at hSw)
        go_simp
        (try with_reducible rfl)
      (try simp only [Act.put, List.setIfInBounds_toArray, List.set_cons_zero, List.set_cons_succ])
      refine wpAnyH_take (i := 29) (oi := { dst := some 77, op := Go.Op.move (Go.Operand.tmp 9), type := 25, pos := "law.go:68", after := #[{ on := 28, ground := Go.Ground.guard }], guard := some (28, true) }) (v := ?_) rfl (by kernel_rfl) (by kernel_rfl) (by kernel_rfl) (fun _ _ _ h => h) (Or.inl ⟨by rfl, ?_⟩) (by assumption) ?_
      rotate_left
      · intro wS hSw
        (try dsimp only at hSw)
        go_simp
        (try with_reducible rfl)
      (try simp only [Act.put, List.setIfInBounds_toArray, List.set_cons_zero, List.set_cons_succ])
      refine wpAnyH_take (i := 30) (oi := { dst := some 78, op := Go.Op.convert 25 9 (Go.Operand.tmp 77), type := 9, pos := "law.go:68", after := #[{ on := 29, ground := Go.Ground.data }, { on := 28, ground := Go.Ground.guard }], guard := some (28, true) }) (v := ?_) rfl (by kernel_rfl) (by kernel_rfl) (by kernel_rfl) (fun _ _ _ h => h) (Or.inl ⟨by rfl, ?_⟩) (by assumption) ?_
      rotate_left
      · intro wS hSw
        (have c9 := Bytes.conv hSw.1 (cap := cx); rw [HSX.out] at c9; go_simp; (try with_reducible rfl))
      (try simp only [Act.put, List.setIfInBounds_toArray, List.set_cons_zero, List.set_cons_succ])
      refine wpAnyH_take (i := 31) (oi := { dst := some 79, op := Go.Op.move (Go.Operand.tmp 10), type := 25, pos := "law.go:68", after := #[{ on := 28, ground := Go.Ground.guard }], guard := some (28, true) }) (v := ?_) rfl (by kernel_rfl) (by kernel_rfl) (by kernel_rfl) (fun _ _ _ h => h) (Or.inl ⟨by rfl, ?_⟩) (by assumption) ?_
      rotate_left
      · intro wS hSw
        (try dsimp only at hSw)
        go_simp
        (try with_reducible rfl)
      (try simp only [Act.put, List.setIfInBounds_toArray, List.set_cons_zero, List.set_cons_succ])
      refine wpAnyH_take (i := 32) (oi := { dst := some 80, op := Go.Op.convert 25 9 (Go.Operand.tmp 79), type := 9, pos := "law.go:68", after := #[{ on := 31, ground := Go.Ground.data }, { on := 28, ground := Go.Ground.guard }], guard := some (28, true) }) (v := ?_) rfl (by kernel_rfl) (by kernel_rfl) (by kernel_rfl) (fun _ _ _ h => h) (Or.inl ⟨by rfl, ?_⟩) (by assumption) ?_
      rotate_left
      · intro wS hSw
        (have c9 := Bytes.conv hSw.2 (cap := cy); rw [HSY.out] at c9; go_simp; (try with_reducible rfl))
      (try simp only [Act.put, List.setIfInBounds_toArray, List.set_cons_zero, List.set_cons_succ])
      refine wpAnyH_take (i := 33) (oi := { dst := some 81, op := Go.Op.binOp Go.BinOp.eql 9 (Go.Operand.tmp 78) (Go.Operand.tmp 80) 9, type := 4, pos := "law.go:68", after := #[{ on := 30, ground := Go.Ground.data }, { on := 32, ground := Go.Ground.data }, { on := 28, ground := Go.Ground.guard }], guard := some (28, true) }) (v := ?_) rfl (by kernel_rfl) (by kernel_rfl) (by kernel_rfl) (fun _ _ _ h => h) (Or.inl ⟨by rfl, ?_⟩) (by assumption) ?_
      rotate_left
      · intro wS hSw
        (try dsimp only at hSw)
        go_simp
        (try with_reducible rfl)
      (try simp only [Act.put, List.setIfInBounds_toArray, List.set_cons_zero, List.set_cons_succ])
      refine wpAnyH_take (i := 34) (oi := { dst := some 82, op := Go.Op.move (Go.Operand.tmp 7), type := 3, pos := "law.go:68", after := #[{ on := 28, ground := Go.Ground.guard }], guard := some (28, true) }) (v := ?_) rfl (by kernel_rfl) (by kernel_rfl) (by kernel_rfl) (fun _ _ _ h => h) (Or.inl ⟨by rfl, ?_⟩) (by assumption) ?_
      rotate_left
      · intro wS hSw
        (try dsimp only at hSw)
        go_simp
        (try with_reducible rfl)
      (try simp only [Act.put, List.setIfInBounds_toArray, List.set_cons_zero, List.set_cons_succ])
      refine wpAnyH_take (i := 35) (oi := { dst := some 83, op := Go.Op.move (Go.Operand.tmp 8), type := 3, pos := "law.go:68", after := #[{ on := 28, ground := Go.Ground.guard }], guard := some (28, true) }) (v := ?_) rfl (by kernel_rfl) (by kernel_rfl) (by kernel_rfl) (fun _ _ _ h => h) (Or.inl ⟨by rfl, ?_⟩) (by assumption) ?_
      rotate_left
      · intro wS hSw
        (try dsimp only at hSw)
        go_simp
        (try with_reducible rfl)
      (try simp only [Act.put, List.setIfInBounds_toArray, List.set_cons_zero, List.set_cons_succ])
      refine wpAnyH_take (i := 36) (oi := { dst := some 84, op := Go.Op.binOp Go.BinOp.eql 3 (Go.Operand.tmp 82) (Go.Operand.tmp 83) 3, type := 4, pos := "law.go:68", after := #[{ on := 34, ground := Go.Ground.data }, { on := 35, ground := Go.Ground.data }, { on := 28, ground := Go.Ground.guard }], guard := some (28, true) }) (v := ?_) rfl (by kernel_rfl) (by kernel_rfl) (by kernel_rfl) (fun _ _ _ h => h) (Or.inl ⟨by rfl, ?_⟩) (by assumption) ?_
      rotate_left
      · intro wS hSw
        (try dsimp only at hSw)
        go_simp
        (try with_reducible rfl)
      (try simp only [Act.put, List.setIfInBounds_toArray, List.set_cons_zero, List.set_cons_succ])
      refine wpAnyH_take (i := 37) (oi := { dst := some 85, op := Go.Op.binOp Go.BinOp.eql 4 (Go.Operand.tmp 81) (Go.Operand.tmp 84) 4, type := 4, pos := "law.go:68", after := #[{ on := 33, ground := Go.Ground.data }, { on := 36, ground := Go.Ground.data }, { on := 28, ground := Go.Ground.guard }], guard := some (28, true) }) (v := ?_) rfl (by kernel_rfl) (by kernel_rfl) (by kernel_rfl) (fun _ _ _ h => h) (Or.inl ⟨by rfl, ?_⟩) (by assumption) ?_
      rotate_left
      · intro wS hSw
        (try dsimp only at hSw)
        go_simp
        (try with_reducible rfl)
      (try simp only [Act.put, List.setIfInBounds_toArray, List.set_cons_zero, List.set_cons_succ])
      refine wpAnyH_take (i := 38) (oi := { dst := some 86, op := Go.Op.pick (Go.Operand.tmp 76) (Go.Operand.tmp 85) (Go.Operand.const (Go.Value.bool false)), type := 4, pos := "law.go:68", after := #[{ on := 28, ground := Go.Ground.data }, { on := 37, ground := Go.Ground.data }], guard := none }) (v := ?_) rfl (by kernel_rfl) (by kernel_rfl) (by kernel_rfl) (fun _ _ _ h => h) (Or.inl ⟨by rfl, ?_⟩) (by assumption) ?_
      rotate_left
      · intro wS hSw
        (try dsimp only at hSw)
        go_simp
        (try with_reducible rfl)
      (try simp only [Act.put, List.setIfInBounds_toArray, List.set_cons_zero, List.set_cons_succ])
      refine wpAnyH_take (i := 39) (oi := { dst := some 87, op := Go.Op.move (Go.Operand.tmp 86), type := 4, pos := "law.go:68", after := #[{ on := 38, ground := Go.Ground.data }, { on := 28, ground := Go.Ground.chain }], guard := none }) (v := ?_) rfl (by kernel_rfl) (by kernel_rfl) (by kernel_rfl) (fun _ _ _ h => h) (Or.inl ⟨by rfl, ?_⟩) (by assumption) ?_
      rotate_left
      · intro wS hSw
        (try dsimp only at hSw)
        go_simp
        (try with_reducible rfl)
      (try simp only [Act.put, List.setIfInBounds_toArray, List.set_cons_zero, List.set_cons_succ])
      refine wpAnyH_ready (rs := [40]) (by kernel_rfl) (by simp) ?_
      refine AllReadyH.cons (o := { dst := some 88, op := Go.Op.call { callee := Go.Callee.value (Go.Operand.func 17), args := #[], argTypes := #[] }, type := 4, pos := "law.go:68", after := #[{ on := 39, ground := Go.Ground.chain }, { on := 39, ground := Go.Ground.guard }], guard := some (39, true) }) rfl (fun K hK => ?_) AllReadyH.nil
      go_simp
      (refine (hmac_sure _ hG_8).mono ?_; rintro e v_9 ⟨rfl, hb_9⟩; have hS_9 := hS_8.below hb_9; have hP_9 := hP_8.trans (hb_9.mono hP_8.size); have hG_9 := hG_8.later hb_9; clear hb_9 hS_8 hP_8 hG_8; skip)
      (try go_wp2_with fail)
      refine hK.out _ _ ?_ (fun hHeld => ?_)
      · (try dsimp only)
        first | assumption
      clear hK K
      (try simp only [Act.put, List.setIfInBounds_toArray, List.set_cons_zero, List.set_cons_succ])
      refine wpAnyH_take (i := 41) (oi := { dst := some 89, op := Go.Op.pick (Go.Operand.tmp 87) (Go.Operand.tmp 88) (Go.Operand.const (Go.Value.bool false)), type := 4, pos := "law.go:68", after := #[{ on := 39, ground := Go.Ground.data }, { on := 40, ground := Go.Ground.data }], guard := none }) (v := ?_) rfl (by kernel_rfl) (by kernel_rfl) (by kernel_rfl) (fun _ _ _ h => h) (Or.inl ⟨by rfl, ?_⟩) (by assumption) ?_
      rotate_left
      · intro wS hSw
        (try dsimp only at hSw)
        go_simp
        (try with_reducible rfl)
      (try simp only [Act.put, List.setIfInBounds_toArray, List.set_cons_zero, List.set_cons_succ])
      refine wpAnyH_take (i := 42) (oi := { dst := some 6, op := Go.Op.assign (Go.Operand.tmp 89), type := 4, pos := "law.go:68", after := #[{ on := 41, ground := Go.Ground.data }, { on := 40, ground := Go.Ground.chain }, { on := 0, ground := Go.Ground.phase }, { on := 1, ground := Go.Ground.phase }, { on := 2, ground := Go.Ground.phase }, { on := 3, ground := Go.Ground.phase }, { on := 4, ground := Go.Ground.phase }, { on := 5, ground := Go.Ground.phase }, { on := 6, ground := Go.Ground.phase }, { on := 7, ground := Go.Ground.phase }, { on := 8, ground := Go.Ground.phase }, { on := 9, ground := Go.Ground.phase }, { on := 10, ground := Go.Ground.phase }, { on := 11, ground := Go.Ground.phase }, { on := 12, ground := Go.Ground.phase }, { on := 13, ground := Go.Ground.phase }, { on := 14, ground := Go.Ground.phase }, { on := 15, ground := Go.Ground.phase }, { on := 16, ground := Go.Ground.phase }, { on := 17, ground := Go.Ground.phase }, { on := 18, ground := Go.Ground.phase }, { on := 19, ground := Go.Ground.phase }, { on := 20, ground := Go.Ground.phase }, { on := 21, ground := Go.Ground.phase }, { on := 22, ground := Go.Ground.phase }, { on := 23, ground := Go.Ground.phase }, { on := 24, ground := Go.Ground.phase }, { on := 25, ground := Go.Ground.phase }, { on := 26, ground := Go.Ground.phase }, { on := 27, ground := Go.Ground.phase }, { on := 28, ground := Go.Ground.phase }, { on := 29, ground := Go.Ground.phase }, { on := 30, ground := Go.Ground.phase }, { on := 31, ground := Go.Ground.phase }, { on := 32, ground := Go.Ground.phase }, { on := 33, ground := Go.Ground.phase }, { on := 34, ground := Go.Ground.phase }, { on := 35, ground := Go.Ground.phase }, { on := 36, ground := Go.Ground.phase }, { on := 37, ground := Go.Ground.phase }, { on := 38, ground := Go.Ground.phase }, { on := 39, ground := Go.Ground.phase }, { on := 40, ground := Go.Ground.phase }, { on := 41, ground := Go.Ground.phase }], guard := none }) (v := ?_) rfl (by kernel_rfl) (by kernel_rfl) (by kernel_rfl) (fun _ _ _ h => h) (Or.inl ⟨by rfl, ?_⟩) (by assumption) ?_
      rotate_left
      · intro wS hSw
        (try dsimp only at hSw)
        go_simp
        (try with_reducible rfl)
      (try simp only [Act.put, List.setIfInBounds_toArray, List.set_cons_zero, List.set_cons_succ])
      refine wpAnyH_done (by kernel_rfl) ?_ _
      have HO := Lib.hid hP_9
      clear hS_9 hP_9 hG_9
      go_wp2_with fail
      go_ret
      exact ⟨rfl, HO.out⟩
    · have hss := HNE.out
      replace hss := hss hij
      have hij2 : ¬ (i : Int) = (j : Int) := by omega
      have hij3 : ((i : Int) == (j : Int)) = false := by rw [beq_eq_false_iff_ne]; exact hij2
      have hss2 : (sx.toList == sy.toList) = false := by rw [beq_eq_false_iff_ne]; intro e; exact hss (Go.WideShapes.bytes_inj (by rw [← ByteArray.toList_eq, ← ByteArray.toList_eq]; exact e))
      refine wp_region_held_drew (S := (SXY gx gy M FX FY)) (by kernel_rfl) ?_ (fun hHeld => ?_)
      · (try dsimp only)
        first | assumption
      generalize v_2.drew = W2 at *
      refine wpAnyH_take (i := 0) (oi := { dst := some 48, op := Go.Op.move (Go.Operand.tmp 0), type := 25, pos := "law.go:68", after := #[], guard := none }) (v := ?_) rfl (by kernel_rfl) (by kernel_rfl) (by kernel_rfl) (fun _ _ _ h => h) (Or.inl ⟨by rfl, ?_⟩) (by assumption) ?_
      rotate_left
      · intro wS hSw
        (try dsimp only at hSw)
        go_simp
        (try with_reducible rfl)
      (try simp only [Act.put, List.setIfInBounds_toArray, List.set_cons_zero, List.set_cons_succ])
      refine wpAnyH_take (i := 1) (oi := { dst := some 49, op := Go.Op.move (Go.Operand.tmp 1), type := 25, pos := "law.go:68", after := #[], guard := none }) (v := ?_) rfl (by kernel_rfl) (by kernel_rfl) (by kernel_rfl) (fun _ _ _ h => h) (Or.inl ⟨by rfl, ?_⟩) (by assumption) ?_
      rotate_left
      · intro wS hSw
        (try dsimp only at hSw)
        go_simp
        (try with_reducible rfl)
      (try simp only [Act.put, List.setIfInBounds_toArray, List.set_cons_zero, List.set_cons_succ])
      refine wpAnyH_take (i := 2) (oi := { dst := some 50, op := Go.Op.move (Go.Operand.tmp 7), type := 3, pos := "law.go:68", after := #[], guard := none }) (v := ?_) rfl (by kernel_rfl) (by kernel_rfl) (by kernel_rfl) (fun _ _ _ h => h) (Or.inl ⟨by rfl, ?_⟩) (by assumption) ?_
      rotate_left
      · intro wS hSw
        (try dsimp only at hSw)
        go_simp
        (try with_reducible rfl)
      (try simp only [Act.put, List.setIfInBounds_toArray, List.set_cons_zero, List.set_cons_succ])
      refine wpAnyH_take (i := 3) (oi := { dst := some 51, op := Go.Op.slice 25 (Go.Operand.tmp 49) none (some (Go.Operand.tmp 50)) none, type := 25, pos := "law.go:68", after := #[{ on := 1, ground := Go.Ground.data }, { on := 2, ground := Go.Ground.data }], guard := none }) (v := ?_) rfl (by kernel_rfl) (by kernel_rfl) (by kernel_rfl) (fun _ _ _ h => h) (Or.inl ⟨by rfl, ?_⟩) (by assumption) ?_
      rotate_left
      · intro wS hSw
        (try dsimp only at hSw)
        go_simp
        (try with_reducible rfl)
      (try simp only [Act.put, List.setIfInBounds_toArray, List.set_cons_zero, List.set_cons_succ])
      refine wpAnyH_take (i := 4) (oi := { dst := some 52, op := Go.Op.move (Go.Operand.tmp 1), type := 25, pos := "law.go:68", after := #[], guard := none }) (v := ?_) rfl (by kernel_rfl) (by kernel_rfl) (by kernel_rfl) (fun _ _ _ h => h) (Or.inl ⟨by rfl, ?_⟩) (by assumption) ?_
      rotate_left
      · intro wS hSw
        (try dsimp only at hSw)
        go_simp
        (try with_reducible rfl)
      (try simp only [Act.put, List.setIfInBounds_toArray, List.set_cons_zero, List.set_cons_succ])
      refine wpAnyH_take (i := 5) (oi := { dst := some 53, op := Go.Op.move (Go.Operand.tmp 7), type := 3, pos := "law.go:68", after := #[], guard := none }) (v := ?_) rfl (by kernel_rfl) (by kernel_rfl) (by kernel_rfl) (fun _ _ _ h => h) (Or.inl ⟨by rfl, ?_⟩) (by assumption) ?_
      rotate_left
      · intro wS hSw
        (try dsimp only at hSw)
        go_simp
        (try with_reducible rfl)
      (try simp only [Act.put, List.setIfInBounds_toArray, List.set_cons_zero, List.set_cons_succ])
      refine wpAnyH_take (i := 6) (oi := { dst := some 54, op := Go.Op.slice 25 (Go.Operand.tmp 52) (some (Go.Operand.tmp 53)) none none, type := 25, pos := "law.go:68", after := #[{ on := 4, ground := Go.Ground.data }, { on := 5, ground := Go.Ground.data }], guard := none }) (v := ?_) rfl (by kernel_rfl) (by kernel_rfl) (by kernel_rfl) (fun _ _ _ h => h) (Or.inl ⟨by rfl, ?_⟩) (by assumption) ?_
      rotate_left
      · intro wS hSw
        (try dsimp only at hSw)
        go_simp
        (try with_reducible rfl)
      (try simp only [Act.put, List.setIfInBounds_toArray, List.set_cons_zero, List.set_cons_succ])
      refine wpAnyH_take (i := 9) (oi := { dst := some 57, op := Go.Op.move (Go.Operand.tmp 0), type := 25, pos := "law.go:68", after := #[], guard := none }) (v := ?_) rfl (by kernel_rfl) (by kernel_rfl) (by kernel_rfl) (fun _ _ _ h => h) (Or.inl ⟨by rfl, ?_⟩) (by assumption) ?_
      rotate_left
      · intro wS hSw
        (try dsimp only at hSw)
        go_simp
        (try with_reducible rfl)
      (try simp only [Act.put, List.setIfInBounds_toArray, List.set_cons_zero, List.set_cons_succ])
      refine wpAnyH_take (i := 10) (oi := { dst := some 58, op := Go.Op.move (Go.Operand.tmp 9), type := 25, pos := "law.go:68", after := #[], guard := none }) (v := ?_) rfl (by kernel_rfl) (by kernel_rfl) (by kernel_rfl) (fun _ _ _ h => h) (Or.inl ⟨by rfl, ?_⟩) (by assumption) ?_
      rotate_left
      · intro wS hSw
        (try dsimp only at hSw)
        go_simp
        (try with_reducible rfl)
      (try simp only [Act.put, List.setIfInBounds_toArray, List.set_cons_zero, List.set_cons_succ])
      refine wpAnyH_ready (rs := [7]) (by kernel_rfl) (by simp) ?_
      refine AllReadyH.cons (o := { dst := some 55, op := Go.Op.buildSlice 22 2 #[(0, Go.Operand.tmp 51), (1, Go.Operand.tmp 54)], type := 22, pos := "law.go:68", after := #[{ on := 3, ground := Go.Ground.data }, { on := 6, ground := Go.Ground.data }], guard := none }) rfl (fun K hK => ?_) AllReadyH.nil
      go_simp
      (have hS_10 := hS_0.below (w' := (W2.alloc (.cells #[.slice ob i cm, .slice pi (m - i) (cm - i)] 25))) ((Below.refl _ _).alloc (Nat.le_refl _) _); skip)
      (try go_wp2_with fail)
      refine hK.out _ _ ?_ (fun hHeld => ?_)
      · (try dsimp only)
        first | assumption
      clear hK K
      (try simp only [Act.put, List.setIfInBounds_toArray, List.set_cons_zero, List.set_cons_succ])
      refine wpAnyH_ready (rs := [8]) (by kernel_rfl) (by simp) ?_
      refine AllReadyH.cons (o := { dst := some 56, op := Go.Op.call { callee := Go.Callee.value (Go.Operand.func 23), args := #[Go.Operand.tmp 48, Go.Operand.tmp 55], argTypes := #[25, 22] }, type := 27, pos := "law.go:68", after := #[{ on := 0, ground := Go.Ground.data }, { on := 7, ground := Go.Ground.data }], guard := none }) rfl (fun K hK => ?_) AllReadyH.nil
      go_simp
      (refine (HPi.out W2 hP_0 hG_0).mono ?_; rintro e v_11 ⟨rfl, hb_11⟩; have hS_11 := hS_0.below hb_11; have hP_11 := hP_0.trans (hb_11.mono hP_0.size); have hG_11 := hG_0.later hb_11; clear hS_10; clear hb_11 hS_0 hP_0 hG_0; skip)
      (try go_wp2_with fail)
      refine hK.out _ _ ?_ (fun hHeld => ?_)
      · (try dsimp only)
        first | assumption
      clear hK K
      (try simp only [Act.put, List.setIfInBounds_toArray, List.set_cons_zero, List.set_cons_succ])
      refine wpAnyH_ready (rs := [11]) (by kernel_rfl) (by simp) ?_
      refine AllReadyH.cons (o := { dst := some 59, op := Go.Op.call { callee := Go.Callee.value (Go.Operand.func 21), args := #[Go.Operand.tmp 57, Go.Operand.tmp 58], argTypes := #[25, 25] }, type := 27, pos := "law.go:68", after := #[{ on := 9, ground := Go.Ground.data }, { on := 10, ground := Go.Ground.data }, { on := 8, ground := Go.Ground.chain }], guard := none }) rfl (fun K hK => ?_) AllReadyH.nil
      go_simp
      (refine (HMi.out _ gx cx HCX.out hP_11 hG_11 hS_11.1).mono ?_; rintro e v_12 ⟨rfl, hb_12⟩; have hS_12 := hS_11.below hb_12; have hP_12 := hP_11.trans (hb_12.mono hP_11.size); have hG_12 := hG_11.later hb_12; clear hb_12 hS_11 hP_11 hG_11; skip)
      (try go_wp2_with fail)
      refine hK.out _ _ ?_ (fun hHeld => ?_)
      · (try dsimp only)
        first | assumption
      clear hK K
      (try simp only [Act.put, List.setIfInBounds_toArray, List.set_cons_zero, List.set_cons_succ])
      refine wpAnyH_take (i := 12) (oi := { dst := some 60, op := Go.Op.binOp Go.BinOp.eql 27 (Go.Operand.tmp 56) (Go.Operand.tmp 59) 27, type := 4, pos := "law.go:68", after := #[{ on := 8, ground := Go.Ground.data }, { on := 11, ground := Go.Ground.data }], guard := none }) (v := ?_) rfl (by kernel_rfl) (by kernel_rfl) (by kernel_rfl) (fun _ _ _ h => h) (Or.inl ⟨by rfl, ?_⟩) (by assumption) ?_
      rotate_left
      · intro wS hSw
        refine exec_eql32 (r := 27) (x := .tmp 56) (y := .tmp 59) ?_ ?_ ?_ HEi.out <;> rfl
      (try simp only [Act.put, List.setIfInBounds_toArray, List.set_cons_zero, List.set_cons_succ])
      refine wpAnyH_take (i := 13) (oi := { dst := some 61, op := Go.Op.move (Go.Operand.tmp 60), type := 4, pos := "law.go:68", after := #[{ on := 12, ground := Go.Ground.data }, { on := 11, ground := Go.Ground.chain }], guard := none }) (v := ?_) rfl (by kernel_rfl) (by kernel_rfl) (by kernel_rfl) (fun _ _ _ h => h) (Or.inl ⟨by rfl, ?_⟩) (by assumption) ?_
      rotate_left
      · intro wS hSw
        (try dsimp only at hSw)
        go_simp
        (try with_reducible rfl)
      (try simp only [Act.put, List.setIfInBounds_toArray, List.set_cons_zero, List.set_cons_succ])
      refine wpAnyH_take (i := 14) (oi := { dst := some 62, op := Go.Op.move (Go.Operand.tmp 0), type := 25, pos := "law.go:68", after := #[{ on := 13, ground := Go.Ground.guard }], guard := some (13, true) }) (v := ?_) rfl (by kernel_rfl) (by kernel_rfl) (by kernel_rfl) (fun _ _ _ h => h) (Or.inl ⟨by rfl, ?_⟩) (by assumption) ?_
      rotate_left
      · intro wS hSw
        (try dsimp only at hSw)
        go_simp
        (try with_reducible rfl)
      (try simp only [Act.put, List.setIfInBounds_toArray, List.set_cons_zero, List.set_cons_succ])
      refine wpAnyH_take (i := 15) (oi := { dst := some 63, op := Go.Op.move (Go.Operand.tmp 1), type := 25, pos := "law.go:68", after := #[{ on := 13, ground := Go.Ground.guard }], guard := some (13, true) }) (v := ?_) rfl (by kernel_rfl) (by kernel_rfl) (by kernel_rfl) (fun _ _ _ h => h) (Or.inl ⟨by rfl, ?_⟩) (by assumption) ?_
      rotate_left
      · intro wS hSw
        (try dsimp only at hSw)
        go_simp
        (try with_reducible rfl)
      (try simp only [Act.put, List.setIfInBounds_toArray, List.set_cons_zero, List.set_cons_succ])
      refine wpAnyH_take (i := 16) (oi := { dst := some 64, op := Go.Op.move (Go.Operand.tmp 8), type := 3, pos := "law.go:68", after := #[{ on := 13, ground := Go.Ground.guard }], guard := some (13, true) }) (v := ?_) rfl (by kernel_rfl) (by kernel_rfl) (by kernel_rfl) (fun _ _ _ h => h) (Or.inl ⟨by rfl, ?_⟩) (by assumption) ?_
      rotate_left
      · intro wS hSw
        (try dsimp only at hSw)
        go_simp
        (try with_reducible rfl)
      (try simp only [Act.put, List.setIfInBounds_toArray, List.set_cons_zero, List.set_cons_succ])
      refine wpAnyH_take (i := 17) (oi := { dst := some 65, op := Go.Op.slice 25 (Go.Operand.tmp 63) none (some (Go.Operand.tmp 64)) none, type := 25, pos := "law.go:68", after := #[{ on := 15, ground := Go.Ground.data }, { on := 16, ground := Go.Ground.data }, { on := 13, ground := Go.Ground.guard }], guard := some (13, true) }) (v := ?_) rfl (by kernel_rfl) (by kernel_rfl) (by kernel_rfl) (fun _ _ _ h => h) (Or.inl ⟨by rfl, ?_⟩) (by assumption) ?_
      rotate_left
      · intro wS hSw
        (try dsimp only at hSw)
        go_simp
        (try with_reducible rfl)
      (try simp only [Act.put, List.setIfInBounds_toArray, List.set_cons_zero, List.set_cons_succ])
      refine wpAnyH_take (i := 18) (oi := { dst := some 66, op := Go.Op.move (Go.Operand.tmp 1), type := 25, pos := "law.go:68", after := #[{ on := 13, ground := Go.Ground.guard }], guard := some (13, true) }) (v := ?_) rfl (by kernel_rfl) (by kernel_rfl) (by kernel_rfl) (fun _ _ _ h => h) (Or.inl ⟨by rfl, ?_⟩) (by assumption) ?_
      rotate_left
      · intro wS hSw
        (try dsimp only at hSw)
        go_simp
        (try with_reducible rfl)
      (try simp only [Act.put, List.setIfInBounds_toArray, List.set_cons_zero, List.set_cons_succ])
      refine wpAnyH_take (i := 19) (oi := { dst := some 67, op := Go.Op.move (Go.Operand.tmp 8), type := 3, pos := "law.go:68", after := #[{ on := 13, ground := Go.Ground.guard }], guard := some (13, true) }) (v := ?_) rfl (by kernel_rfl) (by kernel_rfl) (by kernel_rfl) (fun _ _ _ h => h) (Or.inl ⟨by rfl, ?_⟩) (by assumption) ?_
      rotate_left
      · intro wS hSw
        (try dsimp only at hSw)
        go_simp
        (try with_reducible rfl)
      (try simp only [Act.put, List.setIfInBounds_toArray, List.set_cons_zero, List.set_cons_succ])
      refine wpAnyH_take (i := 20) (oi := { dst := some 68, op := Go.Op.slice 25 (Go.Operand.tmp 66) (some (Go.Operand.tmp 67)) none none, type := 25, pos := "law.go:68", after := #[{ on := 18, ground := Go.Ground.data }, { on := 19, ground := Go.Ground.data }, { on := 13, ground := Go.Ground.guard }], guard := some (13, true) }) (v := ?_) rfl (by kernel_rfl) (by kernel_rfl) (by kernel_rfl) (fun _ _ _ h => h) (Or.inl ⟨by rfl, ?_⟩) (by assumption) ?_
      rotate_left
      · intro wS hSw
        (try dsimp only at hSw)
        go_simp
        (try with_reducible rfl)
      (try simp only [Act.put, List.setIfInBounds_toArray, List.set_cons_zero, List.set_cons_succ])
      refine wpAnyH_take (i := 23) (oi := { dst := some 71, op := Go.Op.move (Go.Operand.tmp 0), type := 25, pos := "law.go:68", after := #[{ on := 13, ground := Go.Ground.guard }], guard := some (13, true) }) (v := ?_) rfl (by kernel_rfl) (by kernel_rfl) (by kernel_rfl) (fun _ _ _ h => h) (Or.inl ⟨by rfl, ?_⟩) (by assumption) ?_
      rotate_left
      · intro wS hSw
        (try dsimp only at hSw)
        go_simp
        (try with_reducible rfl)
      (try simp only [Act.put, List.setIfInBounds_toArray, List.set_cons_zero, List.set_cons_succ])
      refine wpAnyH_take (i := 24) (oi := { dst := some 72, op := Go.Op.move (Go.Operand.tmp 10), type := 25, pos := "law.go:68", after := #[{ on := 13, ground := Go.Ground.guard }], guard := some (13, true) }) (v := ?_) rfl (by kernel_rfl) (by kernel_rfl) (by kernel_rfl) (fun _ _ _ h => h) (Or.inl ⟨by rfl, ?_⟩) (by assumption) ?_
      rotate_left
      · intro wS hSw
        (try dsimp only at hSw)
        go_simp
        (try with_reducible rfl)
      (try simp only [Act.put, List.setIfInBounds_toArray, List.set_cons_zero, List.set_cons_succ])
      refine wpAnyH_ready (rs := [21]) (by kernel_rfl) (by simp) ?_
      refine AllReadyH.cons (o := { dst := some 69, op := Go.Op.buildSlice 22 2 #[(0, Go.Operand.tmp 65), (1, Go.Operand.tmp 68)], type := 22, pos := "law.go:68", after := #[{ on := 17, ground := Go.Ground.data }, { on := 20, ground := Go.Ground.data }, { on := 13, ground := Go.Ground.guard }], guard := some (13, true) }) rfl (fun K hK => ?_) AllReadyH.nil
      go_simp
      (have hS_13 := hS_12.below (w' := (v_12.alloc (.cells #[.slice ob j cm, .slice pj (m - j) (cm - j)] 25))) ((Below.refl _ _).alloc (Nat.le_refl _) _); skip)
      (try go_wp2_with fail)
      refine hK.out _ _ ?_ (fun hHeld => ?_)
      · (try dsimp only)
        first | assumption
      clear hK K
      (try simp only [Act.put, List.setIfInBounds_toArray, List.set_cons_zero, List.set_cons_succ])
      refine wpAnyH_ready (rs := [22]) (by kernel_rfl) (by simp) ?_
      refine AllReadyH.cons (o := { dst := some 70, op := Go.Op.call { callee := Go.Callee.value (Go.Operand.func 23), args := #[Go.Operand.tmp 62, Go.Operand.tmp 69], argTypes := #[25, 22] }, type := 27, pos := "law.go:68", after := #[{ on := 14, ground := Go.Ground.data }, { on := 21, ground := Go.Ground.data }, { on := 13, ground := Go.Ground.chain }, { on := 13, ground := Go.Ground.guard }], guard := some (13, true) }) rfl (fun K hK => ?_) AllReadyH.nil
      go_simp
      (refine (HPj.out v_12 hP_12 hG_12).mono ?_; rintro e v_14 ⟨rfl, hb_14⟩; have hS_14 := hS_12.below hb_14; have hP_14 := hP_12.trans (hb_14.mono hP_12.size); have hG_14 := hG_12.later hb_14; clear hS_13; clear hb_14 hS_12 hP_12 hG_12; skip)
      (try go_wp2_with fail)
      refine hK.out _ _ ?_ (fun hHeld => ?_)
      · (try dsimp only)
        first | assumption
      clear hK K
      (try simp only [Act.put, List.setIfInBounds_toArray, List.set_cons_zero, List.set_cons_succ])
      refine wpAnyH_ready (rs := [25]) (by kernel_rfl) (by simp) ?_
      refine AllReadyH.cons (o := { dst := some 73, op := Go.Op.call { callee := Go.Callee.value (Go.Operand.func 21), args := #[Go.Operand.tmp 71, Go.Operand.tmp 72], argTypes := #[25, 25] }, type := 27, pos := "law.go:68", after := #[{ on := 23, ground := Go.Ground.data }, { on := 24, ground := Go.Ground.data }, { on := 22, ground := Go.Ground.chain }, { on := 13, ground := Go.Ground.guard }], guard := some (13, true) }) rfl (fun K hK => ?_) AllReadyH.nil
      go_simp
      (refine (HMj.out _ gy cy HCY.out hP_14 hG_14 hS_14.2).mono ?_; rintro e v_15 ⟨rfl, hb_15⟩; have hS_15 := hS_14.below hb_15; have hP_15 := hP_14.trans (hb_15.mono hP_14.size); have hG_15 := hG_14.later hb_15; clear hb_15 hS_14 hP_14 hG_14; skip)
      (try go_wp2_with fail)
      refine hK.out _ _ ?_ (fun hHeld => ?_)
      · (try dsimp only)
        first | assumption
      clear hK K
      (try simp only [Act.put, List.setIfInBounds_toArray, List.set_cons_zero, List.set_cons_succ])
      refine wpAnyH_take (i := 26) (oi := { dst := some 74, op := Go.Op.binOp Go.BinOp.eql 27 (Go.Operand.tmp 70) (Go.Operand.tmp 73) 27, type := 4, pos := "law.go:68", after := #[{ on := 22, ground := Go.Ground.data }, { on := 25, ground := Go.Ground.data }, { on := 13, ground := Go.Ground.guard }], guard := some (13, true) }) (v := ?_) rfl (by kernel_rfl) (by kernel_rfl) (by kernel_rfl) (fun _ _ _ h => h) (Or.inl ⟨by rfl, ?_⟩) (by assumption) ?_
      rotate_left
      · intro wS hSw
        refine exec_eql32 (r := 27) (x := .tmp 70) (y := .tmp 73) ?_ ?_ ?_ HEj.out <;> rfl
      (try simp only [Act.put, List.setIfInBounds_toArray, List.set_cons_zero, List.set_cons_succ])
      refine wpAnyH_take (i := 27) (oi := { dst := some 75, op := Go.Op.pick (Go.Operand.tmp 61) (Go.Operand.tmp 74) (Go.Operand.const (Go.Value.bool false)), type := 4, pos := "law.go:68", after := #[{ on := 13, ground := Go.Ground.data }, { on := 26, ground := Go.Ground.data }], guard := none }) (v := ?_) rfl (by kernel_rfl) (by kernel_rfl) (by kernel_rfl) (fun _ _ _ h => h) (Or.inl ⟨by rfl, ?_⟩) (by assumption) ?_
      rotate_left
      · intro wS hSw
        (try dsimp only at hSw)
        go_simp
        (try with_reducible rfl)
      (try simp only [Act.put, List.setIfInBounds_toArray, List.set_cons_zero, List.set_cons_succ])
      refine wpAnyH_take (i := 28) (oi := { dst := some 76, op := Go.Op.move (Go.Operand.tmp 75), type := 4, pos := "law.go:68", after := #[{ on := 27, ground := Go.Ground.data }, { on := 25, ground := Go.Ground.chain }], guard := none }) (v := ?_) rfl (by kernel_rfl) (by kernel_rfl) (by kernel_rfl) (fun _ _ _ h => h) (Or.inl ⟨by rfl, ?_⟩) (by assumption) ?_
      rotate_left
      · intro wS hSw
        (try dsimp only at hSw)
        go_simp
        (try with_reducible rfl)
      (try simp only [Act.put, List.setIfInBounds_toArray, List.set_cons_zero, List.set_cons_succ])
      refine wpAnyH_take (i := 29) (oi := { dst := some 77, op := Go.Op.move (Go.Operand.tmp 9), type := 25, pos := "law.go:68", after := #[{ on := 28, ground := Go.Ground.guard }], guard := some (28, true) }) (v := ?_) rfl (by kernel_rfl) (by kernel_rfl) (by kernel_rfl) (fun _ _ _ h => h) (Or.inl ⟨by rfl, ?_⟩) (by assumption) ?_
      rotate_left
      · intro wS hSw
        (try dsimp only at hSw)
        go_simp
        (try with_reducible rfl)
      (try simp only [Act.put, List.setIfInBounds_toArray, List.set_cons_zero, List.set_cons_succ])
      refine wpAnyH_take (i := 30) (oi := { dst := some 78, op := Go.Op.convert 25 9 (Go.Operand.tmp 77), type := 9, pos := "law.go:68", after := #[{ on := 29, ground := Go.Ground.data }, { on := 28, ground := Go.Ground.guard }], guard := some (28, true) }) (v := ?_) rfl (by kernel_rfl) (by kernel_rfl) (by kernel_rfl) (fun _ _ _ h => h) (Or.inl ⟨by rfl, ?_⟩) (by assumption) ?_
      rotate_left
      · intro wS hSw
        (have c9 := Bytes.conv hSw.1 (cap := cx); rw [HSX.out] at c9; go_simp; (try with_reducible rfl))
      (try simp only [Act.put, List.setIfInBounds_toArray, List.set_cons_zero, List.set_cons_succ])
      refine wpAnyH_take (i := 31) (oi := { dst := some 79, op := Go.Op.move (Go.Operand.tmp 10), type := 25, pos := "law.go:68", after := #[{ on := 28, ground := Go.Ground.guard }], guard := some (28, true) }) (v := ?_) rfl (by kernel_rfl) (by kernel_rfl) (by kernel_rfl) (fun _ _ _ h => h) (Or.inl ⟨by rfl, ?_⟩) (by assumption) ?_
      rotate_left
      · intro wS hSw
        (try dsimp only at hSw)
        go_simp
        (try with_reducible rfl)
      (try simp only [Act.put, List.setIfInBounds_toArray, List.set_cons_zero, List.set_cons_succ])
      refine wpAnyH_take (i := 32) (oi := { dst := some 80, op := Go.Op.convert 25 9 (Go.Operand.tmp 79), type := 9, pos := "law.go:68", after := #[{ on := 31, ground := Go.Ground.data }, { on := 28, ground := Go.Ground.guard }], guard := some (28, true) }) (v := ?_) rfl (by kernel_rfl) (by kernel_rfl) (by kernel_rfl) (fun _ _ _ h => h) (Or.inl ⟨by rfl, ?_⟩) (by assumption) ?_
      rotate_left
      · intro wS hSw
        (have c9 := Bytes.conv hSw.2 (cap := cy); rw [HSY.out] at c9; go_simp; (try with_reducible rfl))
      (try simp only [Act.put, List.setIfInBounds_toArray, List.set_cons_zero, List.set_cons_succ])
      refine wpAnyH_take (i := 33) (oi := { dst := some 81, op := Go.Op.binOp Go.BinOp.eql 9 (Go.Operand.tmp 78) (Go.Operand.tmp 80) 9, type := 4, pos := "law.go:68", after := #[{ on := 30, ground := Go.Ground.data }, { on := 32, ground := Go.Ground.data }, { on := 28, ground := Go.Ground.guard }], guard := some (28, true) }) (v := ?_) rfl (by kernel_rfl) (by kernel_rfl) (by kernel_rfl) (fun _ _ _ h => h) (Or.inl ⟨by rfl, ?_⟩) (by assumption) ?_
      rotate_left
      · intro wS hSw
        (try dsimp only at hSw)
        go_simp
        (try with_reducible rfl)
      (try simp only [Act.put, List.setIfInBounds_toArray, List.set_cons_zero, List.set_cons_succ])
      refine wpAnyH_take (i := 34) (oi := { dst := some 82, op := Go.Op.move (Go.Operand.tmp 7), type := 3, pos := "law.go:68", after := #[{ on := 28, ground := Go.Ground.guard }], guard := some (28, true) }) (v := ?_) rfl (by kernel_rfl) (by kernel_rfl) (by kernel_rfl) (fun _ _ _ h => h) (Or.inl ⟨by rfl, ?_⟩) (by assumption) ?_
      rotate_left
      · intro wS hSw
        (try dsimp only at hSw)
        go_simp
        (try with_reducible rfl)
      (try simp only [Act.put, List.setIfInBounds_toArray, List.set_cons_zero, List.set_cons_succ])
      refine wpAnyH_take (i := 35) (oi := { dst := some 83, op := Go.Op.move (Go.Operand.tmp 8), type := 3, pos := "law.go:68", after := #[{ on := 28, ground := Go.Ground.guard }], guard := some (28, true) }) (v := ?_) rfl (by kernel_rfl) (by kernel_rfl) (by kernel_rfl) (fun _ _ _ h => h) (Or.inl ⟨by rfl, ?_⟩) (by assumption) ?_
      rotate_left
      · intro wS hSw
        (try dsimp only at hSw)
        go_simp
        (try with_reducible rfl)
      (try simp only [Act.put, List.setIfInBounds_toArray, List.set_cons_zero, List.set_cons_succ])
      refine wpAnyH_take (i := 36) (oi := { dst := some 84, op := Go.Op.binOp Go.BinOp.eql 3 (Go.Operand.tmp 82) (Go.Operand.tmp 83) 3, type := 4, pos := "law.go:68", after := #[{ on := 34, ground := Go.Ground.data }, { on := 35, ground := Go.Ground.data }, { on := 28, ground := Go.Ground.guard }], guard := some (28, true) }) (v := ?_) rfl (by kernel_rfl) (by kernel_rfl) (by kernel_rfl) (fun _ _ _ h => h) (Or.inl ⟨by rfl, ?_⟩) (by assumption) ?_
      rotate_left
      · intro wS hSw
        (try dsimp only at hSw)
        go_simp
        (try with_reducible rfl)
      (try simp only [Act.put, List.setIfInBounds_toArray, List.set_cons_zero, List.set_cons_succ])
      refine wpAnyH_take (i := 37) (oi := { dst := some 85, op := Go.Op.binOp Go.BinOp.eql 4 (Go.Operand.tmp 81) (Go.Operand.tmp 84) 4, type := 4, pos := "law.go:68", after := #[{ on := 33, ground := Go.Ground.data }, { on := 36, ground := Go.Ground.data }, { on := 28, ground := Go.Ground.guard }], guard := some (28, true) }) (v := ?_) rfl (by kernel_rfl) (by kernel_rfl) (by kernel_rfl) (fun _ _ _ h => h) (Or.inl ⟨by rfl, ?_⟩) (by assumption) ?_
      rotate_left
      · intro wS hSw
        (try dsimp only at hSw)
        go_simp
        (try with_reducible rfl)
      (try simp only [Act.put, List.setIfInBounds_toArray, List.set_cons_zero, List.set_cons_succ])
      refine wpAnyH_take (i := 38) (oi := { dst := some 86, op := Go.Op.pick (Go.Operand.tmp 76) (Go.Operand.tmp 85) (Go.Operand.const (Go.Value.bool false)), type := 4, pos := "law.go:68", after := #[{ on := 28, ground := Go.Ground.data }, { on := 37, ground := Go.Ground.data }], guard := none }) (v := ?_) rfl (by kernel_rfl) (by kernel_rfl) (by kernel_rfl) (fun _ _ _ h => h) (Or.inl ⟨by rfl, ?_⟩) (by assumption) ?_
      rotate_left
      · intro wS hSw
        (try dsimp only at hSw)
        go_simp
        (try with_reducible rfl)
      (try simp only [Act.put, List.setIfInBounds_toArray, List.set_cons_zero, List.set_cons_succ])
      refine wpAnyH_take (i := 39) (oi := { dst := some 87, op := Go.Op.move (Go.Operand.tmp 86), type := 4, pos := "law.go:68", after := #[{ on := 38, ground := Go.Ground.data }, { on := 28, ground := Go.Ground.chain }], guard := none }) (v := ?_) rfl (by kernel_rfl) (by kernel_rfl) (by kernel_rfl) (fun _ _ _ h => h) (Or.inl ⟨by rfl, ?_⟩) (by assumption) ?_
      rotate_left
      · intro wS hSw
        (try dsimp only at hSw)
        go_simp
        (try with_reducible rfl)
      (try simp only [Act.put, List.setIfInBounds_toArray, List.set_cons_zero, List.set_cons_succ])
      refine wpAnyH_ready (rs := [40]) (by kernel_rfl) (by simp) ?_
      refine AllReadyH.cons (o := { dst := some 88, op := Go.Op.call { callee := Go.Callee.value (Go.Operand.func 17), args := #[], argTypes := #[] }, type := 4, pos := "law.go:68", after := #[{ on := 39, ground := Go.Ground.chain }, { on := 39, ground := Go.Ground.guard }], guard := some (39, true) }) rfl (fun K hK => ?_) AllReadyH.nil
      go_simp
      (refine (hmac_sure _ hG_15).mono ?_; rintro e v_16 ⟨rfl, hb_16⟩; have hS_16 := hS_15.below hb_16; have hP_16 := hP_15.trans (hb_16.mono hP_15.size); have hG_16 := hG_15.later hb_16; clear hb_16 hS_15 hP_15 hG_15; skip)
      (try go_wp2_with fail)
      refine hK.out _ _ ?_ (fun hHeld => ?_)
      · (try dsimp only)
        first | assumption
      clear hK K
      (try simp only [Act.put, List.setIfInBounds_toArray, List.set_cons_zero, List.set_cons_succ])
      refine wpAnyH_take (i := 41) (oi := { dst := some 89, op := Go.Op.pick (Go.Operand.tmp 87) (Go.Operand.tmp 88) (Go.Operand.const (Go.Value.bool false)), type := 4, pos := "law.go:68", after := #[{ on := 39, ground := Go.Ground.data }, { on := 40, ground := Go.Ground.data }], guard := none }) (v := ?_) rfl (by kernel_rfl) (by kernel_rfl) (by kernel_rfl) (fun _ _ _ h => h) (Or.inl ⟨by rfl, ?_⟩) (by assumption) ?_
      rotate_left
      · intro wS hSw
        (try dsimp only at hSw)
        go_simp
        (try with_reducible rfl)
      (try simp only [Act.put, List.setIfInBounds_toArray, List.set_cons_zero, List.set_cons_succ])
      refine wpAnyH_take (i := 42) (oi := { dst := some 6, op := Go.Op.assign (Go.Operand.tmp 89), type := 4, pos := "law.go:68", after := #[{ on := 41, ground := Go.Ground.data }, { on := 40, ground := Go.Ground.chain }, { on := 0, ground := Go.Ground.phase }, { on := 1, ground := Go.Ground.phase }, { on := 2, ground := Go.Ground.phase }, { on := 3, ground := Go.Ground.phase }, { on := 4, ground := Go.Ground.phase }, { on := 5, ground := Go.Ground.phase }, { on := 6, ground := Go.Ground.phase }, { on := 7, ground := Go.Ground.phase }, { on := 8, ground := Go.Ground.phase }, { on := 9, ground := Go.Ground.phase }, { on := 10, ground := Go.Ground.phase }, { on := 11, ground := Go.Ground.phase }, { on := 12, ground := Go.Ground.phase }, { on := 13, ground := Go.Ground.phase }, { on := 14, ground := Go.Ground.phase }, { on := 15, ground := Go.Ground.phase }, { on := 16, ground := Go.Ground.phase }, { on := 17, ground := Go.Ground.phase }, { on := 18, ground := Go.Ground.phase }, { on := 19, ground := Go.Ground.phase }, { on := 20, ground := Go.Ground.phase }, { on := 21, ground := Go.Ground.phase }, { on := 22, ground := Go.Ground.phase }, { on := 23, ground := Go.Ground.phase }, { on := 24, ground := Go.Ground.phase }, { on := 25, ground := Go.Ground.phase }, { on := 26, ground := Go.Ground.phase }, { on := 27, ground := Go.Ground.phase }, { on := 28, ground := Go.Ground.phase }, { on := 29, ground := Go.Ground.phase }, { on := 30, ground := Go.Ground.phase }, { on := 31, ground := Go.Ground.phase }, { on := 32, ground := Go.Ground.phase }, { on := 33, ground := Go.Ground.phase }, { on := 34, ground := Go.Ground.phase }, { on := 35, ground := Go.Ground.phase }, { on := 36, ground := Go.Ground.phase }, { on := 37, ground := Go.Ground.phase }, { on := 38, ground := Go.Ground.phase }, { on := 39, ground := Go.Ground.phase }, { on := 40, ground := Go.Ground.phase }, { on := 41, ground := Go.Ground.phase }], guard := none }) (v := ?_) rfl (by kernel_rfl) (by kernel_rfl) (by kernel_rfl) (fun _ _ _ h => h) (Or.inl ⟨by rfl, ?_⟩) (by assumption) ?_
      rotate_left
      · intro wS hSw
        (try dsimp only at hSw)
        go_simp
        (try with_reducible rfl)
      (try simp only [Act.put, List.setIfInBounds_toArray, List.set_cons_zero, List.set_cons_succ])
      refine wpAnyH_done (by kernel_rfl) ?_ _
      have HO := Lib.hid hP_16
      clear hS_16 hP_16 hG_16
      go_wp2_with fail
      go_ret
      exact ⟨rfl, HO.out⟩
end Go.Proofs.YtbblibddikdakaaDoor
