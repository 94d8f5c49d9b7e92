/- Layer 30's bytes: the program and the document side by side; the walk of EngineForms. -/
import Derived.Test.YtkaddilgegimjaaDoorEm2
import Derived.Test.YtkaddilgegimjaaDoorEm4
import Derived.Test.YtkaddilgegimjaaDoorEsI
import Derived.Test.YtkaddilgegimjaaDoorEs1
namespace Go.Proofs.YtkaddilgegimjaaDoor
set_option linter.unusedVariables false
set_option linter.unusedSimpArgs false
open Go.RowKit

/-- Are the first two bytes the mark? -/
def mB (F : Nat → Nat) (N : Nat) : Bool := (strF 2 (gotF F N 0 2)).toList == (⟨#[115, 101]⟩ : ByteArray).toList
theorem se_str : strF 2 seF = (⟨#[115, 101]⟩ : ByteArray) := by rfl
theorem mB_yes {F : Nat → Nat} {N : Nat} (h : 2 ≤ N) (h0 : F 0 = 115) (h1 : F 1 = 101) : mB F N = true := by
  unfold mB
  rw [strF_congr (g := seF) fun i hi => by
    unfold gotF seF
    rw [if_pos (by omega)]
    rcases (show i = 0 ∨ i = 1 by omega) with rfl | rfl
    · exact h0
    · exact h1, se_str]
  exact beq_self_eq_true _
theorem mB_no {F : Nat → Nat} {N : Nat} (hF : ∀ i, i < N → F i < 256) (h : 2 ≤ N) (h1 : F 0 ≠ 115 ∨ F 1 ≠ 101) : mB F N = false := by
  unfold mB
  rw [beq_eq_false_iff_ne]
  intro e
  have e2 : strF 2 (gotF F N 0 2) = strF 2 seF := by
    rw [se_str]
    exact Go.WideShapes.bytes_inj (by rw [← ByteArray.toList_eq, ← ByteArray.toList_eq]; exact e)
  have e3 := (strF_inj (fun i hi => gotF_lt hF (Nat.zero_le _) i hi) (fun i _ => by unfold seF; split <;> decide) e2).2
  have e4 := e3 0 (by decide)
  have e5 := e3 1 (by decide)
  unfold gotF at e4 e5
  rw [if_pos (by omega)] at e4 e5
  rcases h1 with h1 | h1
  · exact h1 e4
  · exact h1 e5
theorem rdec30_any (od : Option Addr) (N cap : Nat) (F : Nat → Nat) (w : World) (hB : Bytes w od N F) (hc : N ≤ cap) (hm : cap ≤ maxLen) :
    Calls Tryd.prog 60 #[.slice od N cap] w (RDecPost w F N (mB F N)) := by
  have hF : ∀ i, i < N → F i < 256 := fun i hi => (hB i hi).1
  by_cases h8 : N < 8
  · exact (rdec30_short od N cap F w hB h8).mono fun _ _ h => RDecPost.no (not_ok_short h8) h
  · have h8' : 8 ≤ N := by omega
    by_cases h0 : F 0 = 115
    · by_cases h1 : F 1 = 101
      · rw [mB_yes (by omega) h0 h1]
        obtain ⟨_, bb, oo, rfl, _⟩ := hB 0 (by omega)
        exact rdec30_main bb oo N cap F w hB hc hm h8' h0 h1
      · rw [mB_no hF (by omega) (.inr h1)]
        exact (rdec30_m1 od N cap F w hB h8' h0 h1).mono fun _ _ h => RDecPost.no not_ok_mark h
    · rw [mB_no hF (by omega) (.inl h0)]
      exact (rdec30_m0 od N cap F w hB h8' h0).mono fun _ _ h => RDecPost.no not_ok_mark h
theorem dCnt_lt {F : Nat → Nat} {N : Nat} {b : Bool} (hF : ∀ i, i < N → F i < 256) : dCnt F N b < 256 := by
  have h : dCnt F N b < 256 ^ 1 := vl_lt hF (by
    show nxt N (nxt N (nxt N 0 2) 1) 4 ≤ N
    exact nxt_le (nxt_le (nxt_le (Nat.zero_le _))))
  simpa using h
/-- Decode, side by side. -/
theorem dec_pair (N : Nat) (F : Nat → Nat) (hF : ∀ i, i < N → F i < 256) :
    ∃ (n last : Nat) (max : Int) (V : Nat → Ver) (k : Nat), n ≤ maxLen ∧
      (∀ od cap w, Bytes w od N F → (od = none → cap = 0) → N ≤ cap → cap ≤ maxLen → Calls Tryd.prog 59 #[.slice od N cap] w (SecO w n last max V k)) ∧
      (∀ od cap w, Bytes w od N F → N ≤ cap → cap ≤ maxLen → Calls Tryd.prog 60 #[.slice od N cap] w (SecD w n last max V k)) := by
  by_cases h : DecOk F N (mB F N)
  · refine ⟨dCnt F N (mB F N), dLast F N (mB F N), (dMax F N (mB F N) : Int), dV F N (mB F N), 0, by have := dCnt_lt (b := mB F N) hF; unfold maxLen; omega, fun od cap w hB hno hc hm => ?_, fun od cap w hB hc hm => ?_⟩
    · refine (edec_any od N cap F (mB F N) w hB hno hc hm rfl).mono fun e w' hp => ?_
      obtain ⟨hp, hb⟩ := hp
      rcases hp with ⟨h', _⟩ | ⟨_, o, c, base, rfl, _, hG⟩
      · exact absurd h h'
      · obtain ⟨o', c', he, _, _, hV⟩ := hG.vers
        cases he
        exact ⟨_, _, _, rfl, ErrV.nil, hV, hb⟩
    · refine (rdec30_any od N cap F w hB hc hm).mono fun e w' hp => ?_
      obtain ⟨hp, hb⟩ := hp
      rcases hp with ⟨h', _⟩ | ⟨_, o, c, rfl, hV⟩
      · exact absurd h h'
      · exact ⟨_, _, rfl, hV, hb⟩
  · refine ⟨0, 0, 0, V00, 4, Nat.zero_le _, fun od cap w hB hno hc hm => ?_, fun od cap w hB hc hm => ?_⟩
    · refine (edec_any od N cap F (mB F N) w hB hno hc hm rfl).mono fun e w' hp => ?_
      obtain ⟨hp, hb⟩ := hp
      rcases hp with ⟨_, rfl⟩ | ⟨h', _⟩
      · exact ⟨none, 0, _, rfl, ErrV.of (by decide), Vers.zero, hb⟩
      · exact absurd h' h
    · refine (rdec30_any od N cap F w hB hc hm).mono fun e w' hp => ?_
      obtain ⟨hp, hb⟩ := hp
      rcases hp with ⟨_, rfl⟩ | ⟨h', _⟩
      · exact ⟨none, 0, rfl, Vers.zero, hb⟩
      · exact absurd h' h
theorem Vers.same {w : World} {oa : Option Addr} {n : Nat} {V U : Nat → Ver} (h : Vers w oa n V) (he : ∀ i, i < n → (V i).n = (U i).n ∧ (V i).len = (U i).len ∧ (∀ j, j < (U i).len → (V i).f j = (U i).f j) ∧ (V i).t = (U i).t ∧ (V i).st = (U i).st) : Vers w oa n U := fun i hi => by
  obtain ⟨b, off, C, h1, ⟨oa', cap, hC, hB, h3⟩, h2⟩ := h i hi
  obtain ⟨e1, e2, e3, e4, e5⟩ := he i hi
  refine ⟨b, off, C, h1, ⟨oa', cap, by rw [hC, e1, e2, e4, e5], fun j hj => ?_, by rw [← e2]; exact h3⟩, h2⟩
  have := hB j (by rw [e2]; exact hj)
  rw [e3 j hj] at this; exact this
def EncO (w : World) (L : Nat) (f : Nat → Nat) (k : Nat) (e : Ending) (w' : World) : Prop := ∃ o c ve, e = .returned (.tuple #[.slice o L c, ve]) ∧ ErrV ve k ∧ Bytes w' o L f ∧ (o = none → c = 0) ∧ L ≤ c ∧ c ≤ maxLen ∧ Below w.heap.size w w'
def EncD (w : World) (L : Nat) (f : Nat → Nat) (k : Nat) (e : Ending) (w' : World) : Prop := ∃ o c, e = .returned (.tuple #[.slice o L c, .int .i64 (k : Int)]) ∧ Bytes w' o L f ∧ Below w.heap.size w w'
/-- What the bytes of a secret are good for. -/
def EncGood (n last : Nat) (max : Int) (V : Nat → Ver) (L : Nat) (f : Nat → Nat) : Prop := 0 < L ∧ L ≤ 10000 ∧ (∀ i, i < L → f i < 256) ∧
  (∀ od cap w, Bytes w od L f → (od = none → cap = 0) → L ≤ cap → cap ≤ maxLen → Calls Tryd.prog 59 #[.slice od L cap] w (SecO w n last max V 0)) ∧
  (∀ g od cap w, Bytes w od (L + 1) g → (∀ i, i < L → g i = f i) → (od = none → cap = 0) → L + 1 ≤ cap → cap ≤ maxLen → Calls Tryd.prog 59 #[.slice od (L + 1) cap] w (SecO w 0 0 0 V00 4))
/-- Encode, side by side. -/
theorem enc_pair (n last : Nat) (max : Int) (V : Nat → Ver) (hn : n ≤ maxLen) (hl : last < 4294967296) (hm : ∀ i, i < n → (V i).n < 4294967296) (ht : ∀ i, i < n → (V i).t < 18446744073709551616) (hf : ∀ i, i < n → ∀ j, j < (V i).len → (V i).f j < 256) :
    ∃ (L : Nat) (f : Nat → Nat) (k : Nat),
      (∀ oa cp w, Vers w oa n V → Calls Tryd.prog 57 #[.agg #[.slice oa n cp, .int .u32 (last : Int), .int .i64 max]] w (EncO w L f k)) ∧
      (∀ oa cp w, Vers w oa n V → Calls Tryd.prog 58 #[.agg #[.slice oa n cp, .int .u32 (last : Int), .int .i64 max]] w (EncD w L f k)) ∧
      (k ≠ 0 ∨ (k = 0 ∧ EncGood n last max V L f)) := by
  by_cases h : SecOk n last max V
  · obtain ⟨M, rfl⟩ : ∃ M : Nat, max = (M : Int) := ⟨max.toNat, by have := h.1.1; omega⟩
    have hn8 : n ≤ 8 := by have := h.1.2.1; have := h.1.2.2.1; omega
    have hM8 : M ≤ 8 := by have := h.1.2.1; omega
    have hlt : ∀ i, i < encL V n → encF n last M V n i < 256 := encF_lt (by omega) (by omega) fun i hi => by
      have h1 := (h.2 i hi).2
      exact ⟨by have := h1.1; omega, by have := h1.2.2.1; omega, hf i hi⟩
    refine ⟨encL V n, encF n last M V n, 0, fun oa cp w hV => ?_, fun oa cp w hV => ?_, .inr ⟨rfl, ?_, ?_, hlt, fun od cap w hB hno hc hcm => ?_, fun g od cap w hB hg hno hc hcm => ?_⟩⟩
    · refine (eenc_ok oa n cp last M V w hl hV ht h).mono fun e w' hp => ?_
      obtain ⟨v, rfl, g, c, rfl, hc, hcm, hB, _, hb⟩ := hp
      exact ⟨_, _, _, rfl, ErrV.nil, hB, (fun h => by cases h), hc, hcm, hb⟩
    · refine (renc_ok oa n cp last M V w hl hV hm ht h).mono fun e w' hp => ?_
      obtain ⟨v, rfl, hE⟩ := hp
      obtain ⟨oa', c', rfl, hB, _⟩ := hE.grow.bytes hlt
      exact ⟨_, _, rfl, hB, hE.bel⟩
    · have := encL_ge (V := V) (k := n); omega
    · have h1 := encL_bound (V := V) (m := 100) (k := n) fun i hi => (h.2 i hi).2.1
      omega
    · have hok := enc_ok (F := encF n last M V n) h hl (fun i _ => rfl) ht
      obtain ⟨a1, a2, a3, _, a5⟩ := enc_read (F := encF n last M V n) (N := encL V n) h hl (Nat.le_refl _) (fun i _ => rfl) ht
      have hmb : mB (encF n last M V n) (encL V n) = true := mB_yes (by have := encL_ge (V := V) (k := n); omega) (encF_head (by decide)) (encF_head (by decide))
      refine (edec_any od _ cap _ true w hB hno hc hcm hmb).mono fun e w' hp => ?_
      obtain ⟨hp, hb⟩ := hp
      rcases hp with ⟨h', _⟩ | ⟨_, o, c, base, rfl, _, hG⟩
      · exact absurd hok h'
      · rw [a1, a2, a3]
        obtain ⟨o', c', he, _, _, hV⟩ := hG.vers
        cases he
        rw [a3] at hV
        exact ⟨_, _, _, rfl, ErrV.nil, hV.same a5, hb⟩
    · have hno2 := enc_more (F := g) h hl (fun i hi => hg i hi) ht
      have h8 := encL_ge (V := V) (k := n)
      have hmb : mB g (encL V n + 1) = true := mB_yes (by omega) (by rw [hg 0 (by omega)]; exact encF_head (by decide)) (by rw [hg 1 (by omega)]; exact encF_head (by decide))
      refine (edec_any od _ cap _ true w hB hno hc hcm hmb).mono fun e w' hp => ?_
      obtain ⟨hp, hb⟩ := hp
      rcases hp with ⟨_, rfl⟩ | ⟨h', _⟩
      · exact ⟨none, 0, _, rfl, ErrV.of (by decide), Vers.zero, hb⟩
      · exact absurd h' hno2
  · exact ⟨0, fun _ => 0, 1, fun oa cp w hV => (eenc_bad oa n cp last max V w hn hl hV h).mono fun _ _ ⟨he, hb⟩ => ⟨none, 0, _, he, ErrV.of (by decide), Bytes.zero, fun _ => rfl, Nat.le_refl _, Nat.zero_le _, hb⟩,
      fun oa cp w hV => (renc_bad oa n cp last max V w hn hl hV hm h).mono fun _ _ ⟨he, hb⟩ => ⟨none, 0, he, Bytes.zero, hb⟩, .inl (by decide)⟩

set_option maxRecDepth 100000 in
set_option maxHeartbeats 8000000 in
theorem ef_main (oa : Option Addr) (n cp last : Nat) (max : Int) (V : Nat → Ver) (ob : Option Addr) (nb cb : Nat) (fb : Nat → Nat) (w : World) (hg : Handle w) (hn : n ≤ maxLen) (hn48 : n * 48 ≤ 140737488355328) (hl : last < 4294967296) (hV : Vers w oa n V) (hm : ∀ i, i < n → (V i).n < 4294967296) (ht : ∀ i, i < n → (V i).t < 18446744073709551616) (hB : Bytes w ob nb fb) (hbz : ob = none → cb = 0) (hbc : nb ≤ cb) (hbm : cb ≤ maxLen) (h : nb ≤ 2000) :
    Calls Tryd.prog 9 #[.agg #[.slice oa n cp, .int .u32 (last : Int), .int .i64 max], .slice ob nb cb] w fun e w' => e = .returned (.bool true) ∧ Below w.heap.size w w' := by
  have hfv : ∀ i, i < n → ∀ j, j < (V i).len → (V i).f j < 256 := fun i hi j hj => by
    obtain ⟨_, _, _, _, _, hBv, _⟩ := hV.get i hi
    exact (hBv j hj).1
  obtain ⟨L, f, k1, hP1, hD1, hgood⟩ := enc_pair n last max V hn hl hm ht hfv
  obtain ⟨n2, l2, m2, V2, k2, hn2, hP2, hD2⟩ := dec_pair nb fb (fun i hi => (hB i hi).1)
  have HP1 := Lib.hid hP1
  have HD1 := Lib.hid hD1
  have HGood := Lib.hid hgood
  have HP2 := Lib.hid hP2
  have HD2 := Lib.hid hD2
  have HN2 := Lib.hid hn2
  have HN := Lib.hid hn
  have HV := Lib.hid hV
  have H48 := Lib.hid hn48
  have HB := Lib.hid hB
  have HBz := Lib.hid hbz
  have HBc := Lib.hid hbc
  have HBm := Lib.hid hbm
  have g0 : (nb : Int) ≤ 2000 := by omega
  have F0 : Fr (w.alloc (.cells #[.slice oa n cp, .int .u32 (last : Int), .int .i64 max] 73)) [(w.heap.size, #[.slice oa n cp, .int .u32 (last : Int), .int .i64 max], 73)] := (Fr.nil w).new #[.slice oa n cp, .int .u32 (last : Int), .int .i64 max] 73
  have N0 : Wn w (w.alloc (.cells #[.slice oa n cp, .int .u32 (last : Int), .int .i64 max] 73)) := (Wn.new hg).alloc _
  have HF0 := Lib.hid F0
  have HR0 := Lib.hid N0
  clear hP1 hD1 hgood hP2 hD2 hn2 hn hV hn48 hB hbz hbc hbm h F0 N0 hg hfv hl hm ht
  have s0 : (w.alloc (.cells #[.slice oa n cp, .int .u32 (last : Int), .int .i64 max] 73)).cell? ⟨w.heap.size, 0, none⟩ = some (.slice oa n cp) := HF0.out.cell 0 0 rfl rfl
  have s1 : (w.alloc (.cells #[.slice oa n cp, .int .u32 (last : Int), .int .i64 max] 73)).cell? ⟨w.heap.size, 1, none⟩ = some (.int .u32 (last : Int)) := HF0.out.cell 0 1 rfl rfl
  have s2 : (w.alloc (.cells #[.slice oa n cp, .int .u32 (last : Int), .int .i64 max] 73)).cell? ⟨w.heap.size, 2, none⟩ = some (.int .i64 max) := HF0.out.cell 0 2 rfl rfl
  go_enter Tryd.func9, Tryd.ntmps9
  go_wp2_with fail
  refine (big_any oa n cp (last : Int) max V _ (HV.out.later HR0.out.bel) HN.out).mono ?_
  rintro e w1 ⟨r, rfl, hb1⟩
  have HR1 := Lib.hid (HR0.out.step hb1)
  have HF1 := Lib.hid (HF0.out.later hb1)
  clear hb1 HR0 HF0 s0 s1 s2
  have t0 : w1.cell? ⟨w.heap.size, 0, none⟩ = some (.slice oa n cp) := HF1.out.cell 0 0 rfl rfl
  have t1 : w1.cell? ⟨w.heap.size, 1, none⟩ = some (.int .u32 (last : Int)) := HF1.out.cell 0 1 rfl rfl
  have t2 : w1.cell? ⟨w.heap.size, 2, none⟩ = some (.int .i64 max) := HF1.out.cell 0 2 rfl rfl
  cases r
  · skip
    go_wp2_with fail
    refine (give_any oa n cp (last : Int) max V _ (HV.out.later HR1.out.bel) H48.out).mono ?_
    rintro e w2 ⟨vx, rfl, hG2, hb2⟩
    obtain ⟨ox, cx, rfl, hcx, hcm, hVx⟩ := hG2.vers
    have HVx := Lib.hid hVx
    have HR2 := Lib.hid (HR1.out.step hb2)
    have HF2 := Lib.hid (HF1.out.later hb2)
    clear hb2 hG2 hcx hcm hVx HR1 HF1 t0 t1 t2
    go_wp2_with fail
    refine (HP1.out ox cx _ HVx.out).mono ?_
    rintro e w3 ⟨o3, c3, ve1, rfl, hv1, hB3, ho3, hc3, hm3, hb3⟩
    have HE1 := Lib.hid hv1
    have HB3 := Lib.hid hB3
    have HO3 := Lib.hid ho3
    have HC3 := Lib.hid hc3
    have HM3 := Lib.hid hm3
    have HR3 := Lib.hid (HR2.out.step hb3)
    have HF3 := Lib.hid (HF2.out.later hb3)
    clear hv1 hB3 ho3 hc3 hm3 hb3 HR2 HF2 HVx
    have a0 : w3.cell? ⟨w.heap.size, 0, none⟩ = some (.slice oa n cp) := HF3.out.cell 0 0 rfl rfl
    have a1 : w3.cell? ⟨w.heap.size, 1, none⟩ = some (.int .u32 (last : Int)) := HF3.out.cell 0 1 rfl rfl
    have a2 : w3.cell? ⟨w.heap.size, 2, none⟩ = some (.int .i64 max) := HF3.out.cell 0 2 rfl rfl
    go_wp2_with fail
    refine (HD1.out oa cp _ (HV.out.later HR3.out.bel)).mono ?_
    rintro e w4 ⟨o4, c4, rfl, hB4, hb4⟩
    have HB4 := Lib.hid hB4
    have HB34 := Lib.hid (HB3.out.later hb4)
    have HR4 := Lib.hid (HR3.out.step hb4)
    have HF4 := Lib.hid (HF3.out.later hb4)
    clear hB4 hb4 HR3 HF3 HB3 a0 a1 a2
    go_wp2_with fail
    refine (HP2.out ob cb _ (HB.out.later HR4.out.bel) HBz.out HBc.out HBm.out).mono ?_
    rintro e w5 ⟨o5, c5, ve2, rfl, hv2, hV5, hb5⟩
    have HE2 := Lib.hid hv2
    have HR5 := Lib.hid ((HR4.out.step hb5).alloc (.cells #[.slice o5 n2 c5, .int .u32 (l2 : Int), .int .i64 m2] 79))
    have HF5 := Lib.hid ((HF4.out.later hb5).new #[.slice o5 n2 c5, .int .u32 (l2 : Int), .int .i64 m2] 79)
    have HB35 := Lib.hid ((HB34.out.later hb5).alloc (.cells #[.slice o5 n2 c5, .int .u32 (l2 : Int), .int .i64 m2] 79))
    have HB45 := Lib.hid ((HB4.out.later hb5).alloc (.cells #[.slice o5 n2 c5, .int .u32 (l2 : Int), .int .i64 m2] 79))
    have HV5 := Lib.hid (hV5.later ((Below.refl _ _).alloc (Nat.le_refl _) (.cells #[.slice o5 n2 c5, .int .u32 (l2 : Int), .int .i64 m2] 79)))
    clear hv2 hV5 hb5 HR4 HF4 HB34 HB4
    go_wp2_with fail
    refine (HD2.out ob cb _ (HB.out.later HR5.out.bel) HBc.out HBm.out).mono ?_
    rintro e w6 ⟨o6, c6, rfl, hV6, hb6⟩
    have HR6 := Lib.hid ((HR5.out.step hb6).alloc (.cells #[.slice o6 n2 c6, .int .u32 (l2 : Int), .int .i64 m2] 73))
    have HF6 := Lib.hid ((HF5.out.later hb6).new #[.slice o6 n2 c6, .int .u32 (l2 : Int), .int .i64 m2] 73)
    have hB36 := (HB35.out.later hb6).alloc (.cells #[.slice o6 n2 c6, .int .u32 (l2 : Int), .int .i64 m2] 73)
    have hB46 := (HB45.out.later hb6).alloc (.cells #[.slice o6 n2 c6, .int .u32 (l2 : Int), .int .i64 m2] 73)
    have HB36 := Lib.hid hB36
    have HV56 := Lib.hid ((HV5.out.later hb6).later ((Below.refl _ _).alloc (Nat.le_refl _) (.cells #[.slice o6 n2 c6, .int .u32 (l2 : Int), .int .i64 m2] 73)))
    have HV6 := Lib.hid (hV6.later ((Below.refl _ _).alloc (Nat.le_refl _) (.cells #[.slice o6 n2 c6, .int .u32 (l2 : Int), .int .i64 m2] 73)))
    have cv3 := conv_any (cp := c3) hB36
    have cv4 := conv_any (cp := c4) hB46
    obtain ⟨str, hstr⟩ : ∃ x, strF L f = x := ⟨_, rfl⟩
    rw [hstr] at cv3 cv4
    clear hstr hB36 hB46 hV6 hb6 HR5 HF5 HB35 HB45 HV5
    go_wp2_with fail
    refine (num_errv HE1.out _ HR6.out.handle).mono ?_
    rintro e w7 ⟨rfl, hb7⟩
    have HR7 := Lib.hid (HR6.out.step hb7)
    have HF7 := Lib.hid (HF6.out.later hb7)
    have HB37 := Lib.hid (HB36.out.later hb7)
    have HV57 := Lib.hid (HV56.out.later hb7)
    have HV67 := Lib.hid (HV6.out.later hb7)
    clear hb7 HR6 HF6 HB36 HV56 HV6 cv3 cv4
    have x0 : w7.cell? ⟨w5.heap.size, 0, none⟩ = some (.slice o5 n2 c5) := HF7.out.cell 1 0 rfl rfl
    have x1 : w7.cell? ⟨w5.heap.size, 1, none⟩ = some (.int .u32 (l2 : Int)) := HF7.out.cell 1 1 rfl rfl
    have x2 : w7.cell? ⟨w5.heap.size, 2, none⟩ = some (.int .i64 m2) := HF7.out.cell 1 2 rfl rfl
    have y0 : w7.cell? ⟨w6.heap.size, 0, none⟩ = some (.slice o6 n2 c6) := HF7.out.cell 0 0 rfl rfl
    have y1 : w7.cell? ⟨w6.heap.size, 1, none⟩ = some (.int .u32 (l2 : Int)) := HF7.out.cell 0 1 rfl rfl
    have y2 : w7.cell? ⟨w6.heap.size, 2, none⟩ = some (.int .i64 m2) := HF7.out.cell 0 2 rfl rfl
    go_wp2_with fail
    refine (issec_yes o5 o6 n2 c5 c6 _ _ V2 _ HV57.out HV67.out HN2.out).mono ?_
    rintro e w8 ⟨rfl, hb8⟩
    have HR8 := Lib.hid (HR7.out.step hb8)
    have HF8 := Lib.hid (HF7.out.later hb8)
    have HB38 := Lib.hid (HB37.out.later hb8)
    clear hb8 HR7 HF7 HB37 HV57 HV67 x0 x1 x2 y0 y1 y2
    go_wp2_with fail
    refine (num_errv HE2.out _ HR8.out.handle).mono ?_
    rintro e w9 ⟨rfl, hb9⟩
    have HR9 := Lib.hid (HR8.out.step hb9)
    have HF9 := Lib.hid (HF8.out.later hb9)
    have HB39 := Lib.hid (HB38.out.later hb9)
    clear hb9 HR8 HF8 HB38
    rcases HE1.out with ⟨hk, rfl⟩ | ⟨hk, rfl⟩
    · have HGd : Hid (EncGood n last max V L f) := Lib.hid (by
        rcases HGood.out with h | h
        · exact absurd hk h
        · exact h.2)
      have HK := Lib.hid hk
      clear hk HE1 HGood
      go_wp2_with fail
      refine (HGd.out.2.2.2.1 o3 c3 _ HB39.out HO3.out HC3.out HM3.out).mono ?_
      rintro e w10 ⟨o10, c10, ve10, rfl, he10, hV10, hb10⟩
      obtain rfl : ve10 = .nilIface := by
        rcases he10 with ⟨_, h⟩ | ⟨h, _⟩
        · exact h
        · exact absurd rfl h
      have HR10 := Lib.hid ((HR9.out.step hb10).alloc (.cells #[.slice o10 n c10, .int .u32 (last : Int), .int .i64 max] 79))
      have HF10 := Lib.hid ((HF9.out.later hb10).new #[.slice o10 n c10, .int .u32 (last : Int), .int .i64 max] 79)
      have hB310 := (HB39.out.later hb10).alloc (.cells #[.slice o10 n c10, .int .u32 (last : Int), .int .i64 max] 79)
      have HV10 := Lib.hid (hV10.later ((Below.refl _ _).alloc (Nat.le_refl _) (.cells #[.slice o10 n c10, .int .u32 (last : Int), .int .i64 max] 79)))
      have hE : Blk ((w10.alloc (.cells #[.slice o10 n c10, .int .u32 (last : Int), .int .i64 max] 79)).alloc (.cells #[] 5)) (w10.heap.size + 1) #[] 5 := by simpa using Blk.new (w10.alloc (.cells #[.slice o10 n c10, .int .u32 (last : Int), .int .i64 max] 79)) #[] 5
      have HGe := Lib.hid (Grow.empty hE (Nat.le_refl _) (fun _ => 0))
      have HBe := Lib.hid (hB310.alloc (.cells #[] 5))
      have HNe := Lib.hid (show o3 = none → L = 0 from fun h => by have h1 := HO3.out h; have h2 := HC3.out; omega)
      have HLe := Lib.hid HGd.out.2.1
      clear he10 hV10 hb10 HR9 HF9 HB39 hE hB310
      go_wp2_with (at_builtin; refine wpList_appO rfl (.tmp 78) (.tmp 79) rfl (w10.heap.size + 1) _ 0 L c3 o3 (fun _ => 0) f _ rfl HGe.out rfl HNe.out HBe.out (by have := HLe.out; omega) (by simp) ?_)
      intro v11 w11 hG11 hg11 _
      have hG11' : Grow w11 (w10.heap.size + 1) v11 L f := by
        have := hG11.congr (g := f) fun i hi => by unfold catF; rw [if_neg (Nat.not_lt_zero _), Nat.sub_zero]
        simpa using this
      have hs10 : (w10.alloc (.cells #[.slice o10 n c10, .int .u32 (last : Int), .int .i64 max] 79)).heap.size = w10.heap.size + 1 := by simp
      have hb11 : Below (w10.heap.size + 1) (w10.alloc (.cells #[.slice o10 n c10, .int .u32 (last : Int), .int .i64 max] 79)) w11 := by
        have h1 : Below (w10.heap.size + 1) (w10.alloc (.cells #[.slice o10 n c10, .int .u32 (last : Int), .int .i64 max] 79)) ((w10.alloc (.cells #[.slice o10 n c10, .int .u32 (last : Int), .int .i64 max] 79)).alloc (.cells #[] 5)) := (Below.refl _ _).alloc (by rw [hs10]; exact Nat.le_refl _) _
        exact h1.trans ((Below.refl (w10.heap.size + 1) _).grown hg11 (by simp) (Grow.block HGe.out))
      have hsz11 : w10.heap.size + 1 ≤ w11.heap.size := by have := hb11.size; omega
      have HGa := Lib.hid (show Grow (w11.alloc (.cells #[.int .u8 0] 5)) (w10.heap.size + 1) v11 L f from World.ownsRow.alloc hG11' _)
      have HBa := Lib.hid (ob1 (w := w11) (z := 0) (y := 0) rfl (by decide))
      have HLa := Lib.hid (show w10.heap.size + 1 ≤ (w11.alloc (.cells #[.int .u8 0] 5)).heap.size by simp; omega)
      have HB11 := Lib.hid hb11
      have HS11 := Lib.hid hsz11
      have HS10 := Lib.hid hs10
      clear hG11 hG11' hg11 hb11 hsz11 hs10 HGe HBe HNe
      go_wp2_with (at_builtin; refine wpList_appO rfl (.tmp 80) (.tmp 81) rfl (w10.heap.size + 1) _ L 1 1 (some ⟨w11.heap.size, 0, none⟩) f (fun _ => 0) _ rfl HGa.out rfl (fun e => by cases e) HBa.out (by have := HLe.out; omega) HLa.out ?_)
      intro v12 w11b hG12 hg12 _
      have hb12 : Below (w10.heap.size + 1) (w10.alloc (.cells #[.slice o10 n c10, .int .u32 (last : Int), .int .i64 max] 79)) w11b := HB11.out.trans (((Below.refl (w10.heap.size + 1) w11).alloc HS11.out (.cells #[.int .u8 0] 5)).trans ((Below.refl (w10.heap.size + 1) _).grown hg12 HLa.out (Grow.block HGa.out)))
      rw [← HS10.out] at hb12
      obtain ⟨g12, cp12, rfl, _, hcp12, hcm12⟩ := hG12.some (Nat.succ_pos _)
      obtain ⟨_, _, he12, hB12, _⟩ := hG12.bytes (fun i hi => by
        unfold catF
        by_cases e : i < L
        · rw [if_pos e]; exact HGd.out.2.2.1 i e
        · rw [if_neg e]; exact (by decide : (0 : Nat) < 256))
      cases he12
      have HR11 := Lib.hid (HR10.out.step hb12)
      have HF11 := Lib.hid (HF10.out.later hb12)
      have HV11 := Lib.hid (HV10.out.later hb12)
      have HB12 := Lib.hid hB12
      have HC12 := Lib.hid hcp12
      have HM12 := Lib.hid hcm12
      clear hG12 hg12 hb12 hB12 hcp12 hcm12 HGa HBa HLa HB11 HS11 HS10 HR10 HF10 HV10
      go_wp2_with fail
      refine (HGd.out.2.2.2.2 _ (some ⟨g12, 0, none⟩) cp12 _ HB12.out (fun i hi => by unfold catF; rw [if_pos hi]) (fun h => by cases h) HC12.out HM12.out).mono ?_
      rintro e w12 ⟨o12, c12, ve12, rfl, he12, hV12, hb12⟩
      have HE12 := Lib.hid he12
      have HR12 := Lib.hid ((HR11.out.step hb12).alloc (.cells #[.slice o12 0 c12, .int .u32 0, .int .i64 0] 79))
      have HF12 := Lib.hid ((HF11.out.later hb12).new #[.slice o12 0 c12, .int .u32 0, .int .i64 0] 79)
      have HV12 := Lib.hid ((HV11.out.later hb12).later ((Below.refl _ _).alloc (Nat.le_refl _) (.cells #[.slice o12 0 c12, .int .u32 0, .int .i64 0] 79)))
      clear he12 hV12 hb12 HR11 HF11 HV11
      have x0 : (w12.alloc (.cells #[.slice o12 0 c12, .int .u32 0, .int .i64 0] 79)).cell? ⟨w10.heap.size, 0, none⟩ = some (.slice o10 n c10) := HF12.out.cell 1 0 rfl rfl
      have x1 : (w12.alloc (.cells #[.slice o12 0 c12, .int .u32 0, .int .i64 0] 79)).cell? ⟨w10.heap.size, 1, none⟩ = some (.int .u32 (last : Int)) := HF12.out.cell 1 1 rfl rfl
      have x2 : (w12.alloc (.cells #[.slice o12 0 c12, .int .u32 0, .int .i64 0] 79)).cell? ⟨w10.heap.size, 2, none⟩ = some (.int .i64 max) := HF12.out.cell 1 2 rfl rfl
      have y0 : (w12.alloc (.cells #[.slice o12 0 c12, .int .u32 0, .int .i64 0] 79)).cell? ⟨w.heap.size, 0, none⟩ = some (.slice oa n cp) := HF12.out.cell 4 0 rfl rfl
      have y1 : (w12.alloc (.cells #[.slice o12 0 c12, .int .u32 0, .int .i64 0] 79)).cell? ⟨w.heap.size, 1, none⟩ = some (.int .u32 (last : Int)) := HF12.out.cell 4 1 rfl rfl
      have y2 : (w12.alloc (.cells #[.slice o12 0 c12, .int .u32 0, .int .i64 0] 79)).cell? ⟨w.heap.size, 2, none⟩ = some (.int .i64 max) := HF12.out.cell 4 2 rfl rfl
      go_wp2_with fail
      refine (issec_yes o10 oa n c10 cp (last : Int) max V _ HV12.out (HV.out.later HR12.out.bel) HN.out).mono ?_
      rintro e w13 ⟨rfl, hb13⟩
      have HR13 := Lib.hid (HR12.out.step hb13)
      clear hb13 HR12 HF12 x0 x1 x2 y0 y1 y2
      go_wp2_with fail
      refine (num_errv (k := 4) HE12.out _ HR13.out.handle).mono ?_
      rintro e w14 ⟨rfl, hb14⟩
      have HR14 := Lib.hid (HR13.out.step hb14)
      clear hb14 HR13
      go_wp2_with fail
      refine (sure30_any _ HR14.out.handle).mono ?_
      rintro e w15 ⟨rfl, hb15⟩
      go_wp2_with fail
      go_ret
      exact ⟨rfl, (HR14.out.step hb15).bel⟩
    · have HK := Lib.hid hk
      clear hk HE1
      go_wp2_with fail
      refine (sure30_any _ HR9.out.handle).mono ?_
      rintro e w10 ⟨rfl, hb10⟩
      go_wp2_with fail
      go_ret
      exact ⟨rfl, (HR9.out.step hb10).bel⟩
  · go_wp2_with fail
    refine (sure30_any _ HR1.out.handle).mono ?_
    rintro e w2 ⟨rfl, hb2⟩
    go_wp2_with fail
    go_ret
    exact ⟨rfl, (HR1.out.step hb2).bel⟩
set_option maxRecDepth 100000 in
set_option maxHeartbeats 1000000 in
theorem ef_long (oa : Option Addr) (n cp last : Nat) (max : Int) (V : Nat → Ver) (ob : Option Addr) (nb cb : Nat) (fb : Nat → Nat) (w : World) (hg : Handle w) (hn : n ≤ maxLen) (hn48 : n * 48 ≤ 140737488355328) (hl : last < 4294967296) (hV : Vers w oa n V) (hm : ∀ i, i < n → (V i).n < 4294967296) (ht : ∀ i, i < n → (V i).t < 18446744073709551616) (hB : Bytes w ob nb fb) (hbz : ob = none → cb = 0) (hbc : nb ≤ cb) (hbm : cb ≤ maxLen) (h : 2000 < nb) :
    Calls Tryd.prog 9 #[.agg #[.slice oa n cp, .int .u32 (last : Int), .int .i64 max], .slice ob nb cb] w fun e w' => e = .returned (.bool true) ∧ Below w.heap.size w w' := by
  have HN := Lib.hid hn
  have HV := Lib.hid hV
  have g0 : (2000 : Int) < (nb : Int) := by omega
  have F0 : Fr (w.alloc (.cells #[.slice oa n cp, .int .u32 (last : Int), .int .i64 max] 73)) [(w.heap.size, #[.slice oa n cp, .int .u32 (last : Int), .int .i64 max], 73)] := (Fr.nil w).new #[.slice oa n cp, .int .u32 (last : Int), .int .i64 max] 73
  have N0 : Wn w (w.alloc (.cells #[.slice oa n cp, .int .u32 (last : Int), .int .i64 max] 73)) := (Wn.new hg).alloc _
  have HF0 := Lib.hid F0
  have HR0 := Lib.hid N0
  clear hn hV hn48 hB hbz hbc hbm h F0 N0 hg hl hm ht
  have s0 : (w.alloc (.cells #[.slice oa n cp, .int .u32 (last : Int), .int .i64 max] 73)).cell? ⟨w.heap.size, 0, none⟩ = some (.slice oa n cp) := HF0.out.cell 0 0 rfl rfl
  have s1 : (w.alloc (.cells #[.slice oa n cp, .int .u32 (last : Int), .int .i64 max] 73)).cell? ⟨w.heap.size, 1, none⟩ = some (.int .u32 (last : Int)) := HF0.out.cell 0 1 rfl rfl
  have s2 : (w.alloc (.cells #[.slice oa n cp, .int .u32 (last : Int), .int .i64 max] 73)).cell? ⟨w.heap.size, 2, none⟩ = some (.int .i64 max) := HF0.out.cell 0 2 rfl rfl
  go_enter Tryd.func9, Tryd.ntmps9
  go_wp2_with fail
  refine (big_any oa n cp (last : Int) max V _ (HV.out.later HR0.out.bel) HN.out).mono ?_
  rintro e w1 ⟨r, rfl, hb1⟩
  have HR1 := Lib.hid (HR0.out.step hb1)
  clear hb1 HR0 HF0 s0 s1 s2
  cases r
  · go_wp2_with fail
    refine (sure30_any _ HR1.out.handle).mono ?_
    rintro e w2 ⟨rfl, hb2⟩
    go_wp2_with fail
    go_ret
    exact ⟨rfl, (HR1.out.step hb2).bel⟩
  · go_wp2_with fail
    refine (sure30_any _ HR1.out.handle).mono ?_
    rintro e w2 ⟨rfl, hb2⟩
    go_wp2_with fail
    go_ret
    exact ⟨rfl, (HR1.out.step hb2).bel⟩
theorem ef_any (oa : Option Addr) (n cp last : Nat) (max : Int) (V : Nat → Ver) (ob : Option Addr) (nb cb : Nat) (fb : Nat → Nat) (w : World) (hg : Handle w) (hn : n ≤ maxLen) (hn48 : n * 48 ≤ 140737488355328) (hl : last < 4294967296) (hV : Vers w oa n V) (hm : ∀ i, i < n → (V i).n < 4294967296) (ht : ∀ i, i < n → (V i).t < 18446744073709551616) (hB : Bytes w ob nb fb) (hbz : ob = none → cb = 0) (hbc : nb ≤ cb) (hbm : cb ≤ maxLen) :
    Calls Tryd.prog 9 #[.agg #[.slice oa n cp, .int .u32 (last : Int), .int .i64 max], .slice ob nb cb] w fun e w' => e = .returned (.bool true) ∧ Below w.heap.size w w' := by
  by_cases h : nb ≤ 2000
  · exact ef_main oa n cp last max V ob nb cb fb w hg hn hn48 hl hV hm ht hB hbz hbc hbm h
  · exact ef_long oa n cp last max V ob nb cb fb w hg hn hn48 hl hV hm ht hB hbz hbc hbm (by omega)
end Go.Proofs.YtkaddilgegimjaaDoor
