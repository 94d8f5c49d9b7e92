/- HmacPieces walked. -/
import Derived.Test.YtbblibddikdakaaDoorHm6
import Derived.Test.YtbblibddikdakaaDoorShB
namespace Go.Proofs.YtbblibddikdakaaDoor
set_option linter.unusedVariables false
set_option linter.unusedSimpArgs false
open Go.RowKit

/-- A sum with a key, and all that was written. -/
structure KZ (w0 : World) (k gi go : Nat) (W : Nat → Nat) (A : Nat) (F : Nat → Nat) (q : Nat) (Q : Nat → Nat) (va : Value) (wr : World) : Prop where
  h : KH wr k gi go W A F
  a : Grow wr w0.heap.size va q Q
  f : ∀ i, i < q → Q i < 256
  o : Below w0.heap.size w0 wr
  v : GV wr
  b : w0.heap.size ≤ k ∧ w0.heap.size ≤ gi ∧ w0.heap.size ≤ go
  gv0 : 0 < w0.heap.size ∧ 1 < w0.heap.size
  na : ∀ j, va.ownBlock = some j → j ≠ k ∧ j ≠ gi ∧ j ≠ go
theorem KZ.later {w0 : World} {k gi go A q : Nat} {W F Q : Nat → Nat} {va : Value} {wr w' : World} (h : KZ w0 k gi go W A F q Q va wr) (hb : Below wr.heap.size wr w') : KZ w0 k gi go W A F q Q va w' :=
  ⟨h.h.later hb, h.a.later hb, h.f, h.o.trans (hb.mono h.o.size), h.v.later hb, h.b, h.gv0, h.na⟩
theorem KZ.wrote {w0 : World} {k gi go A A' q : Nat} {W F F' Q : Nat → Nat} {va : Value} {wr w' : World} (h : KZ w0 k gi go W A F q Q va wr) (hK : KH w' k gi go W A' F') (hO : Own gi wr w') : KZ w0 k gi go W A' F' q Q va w' :=
  ⟨hK, h.a.ownN hO fun j hj => (h.na j hj).2.1, h.f, h.o.trans (hO.below h.b.2.1 h.o.size), h.v.own hO h.h.hi.1.1 h.h.hi.1.2, h.b, h.gv0, h.na⟩
theorem grown_ne {wr w' : World} {v : Value} (x : Nat) (hx : x < wr.heap.size) (hk : ∀ k, v.ownBlock = some k → k ≠ x) : x ≠ v.ownBlock.getD wr.heap.size := by
  cases e : v.ownBlock with
  | none => simp; omega
  | some b => simp; exact fun e2 => hk b e e2.symm
theorem KZ.grew {w0 : World} {k gi go A q q' : Nat} {W F Q Q' : Nat → Nat} {va va' : Value} {wr w' : World} (h : KZ w0 k gi go W A F q Q va wr) (hg : wr.grownBy w' va.ownBlock) (hG : Grow w' w0.heap.size va' q' Q') (hob : va'.ownBlock = va.ownBlock ∨ va'.ownBlock = some wr.heap.size) (hf : ∀ i, i < q' → Q' i < 256) : KZ w0 k gi go W A F q' Q' va' w' := by
  have hO := own_of_grown hg
  have lk := Blk.lt h.h.kb
  have li := h.h.hi.lt
  have lo := h.h.ho.lt
  have hge : w0.heap.size ≤ va.ownBlock.getD wr.heap.size := by
    cases e : va.ownBlock with
    | none => simp; exact h.o.size
    | some b => simp; exact (h.a.lt b e).1
  refine ⟨h.h.own hO (grown_ne (w' := w') k lk fun j hj => (h.na j hj).1) (grown_ne (w' := w') gi li fun j hj => (h.na j hj).2.1) (grown_ne (w' := w') go lo fun j hj => (h.na j hj).2.2), hG, hf, h.o.trans (hO.below hge h.o.size), ?_, h.b, h.gv0, fun j hj => ?_⟩
  · exact h.v.own hO (by have := h.gv0; omega) (by have := h.gv0; omega)
  · rcases hob with e | e
    · exact h.na j (by rw [← e]; exact hj)
    · rw [e] at hj; cases hj; omega
/-- A longer key, and all that was written. -/
structure LZ (w0 : World) (p : Nat) (L : Nat → Nat) (vl : Value) (q : Nat) (Q : Nat → Nat) (va : Value) (wr : World) : Prop where
  l : Grow wr w0.heap.size vl p L
  lf : ∀ i, i < p → L i < 256
  a : Grow wr w0.heap.size va q Q
  f : ∀ i, i < q → Q i < 256
  o : Below w0.heap.size w0 wr
  v : GV wr
  gv0 : 0 < w0.heap.size ∧ 1 < w0.heap.size
  n : ∀ j, va.ownBlock = some j → vl.ownBlock ≠ some j
theorem LZ.later {w0 : World} {p q : Nat} {L Q : Nat → Nat} {vl va : Value} {wr w' : World} (h : LZ w0 p L vl q Q va wr) (hb : Below wr.heap.size wr w') : LZ w0 p L vl q Q va w' :=
  ⟨h.l.later hb, h.lf, h.a.later hb, h.f, h.o.trans (hb.mono h.o.size), h.v.later hb, h.gv0, h.n⟩
theorem LZ.congr {w0 : World} {p q : Nat} {L L' Q : Nat → Nat} {vl va : Value} {wr : World} (h : LZ w0 p L vl q Q va wr) (he : ∀ i, i < p → L i = L' i) : LZ w0 p L' vl q Q va wr :=
  ⟨h.l.congr he, fun i hi => by rw [← he i hi]; exact h.lf i hi, h.a, h.f, h.o, h.v, h.gv0, h.n⟩
theorem LZ.grew {w0 : World} {p p' q : Nat} {L L' Q : Nat → Nat} {vl vl' va : Value} {wr w' : World} (h : LZ w0 p L vl q Q va wr) (hg : wr.grownBy w' vl.ownBlock) (hG : Grow w' w0.heap.size vl' p' L') (hob : vl'.ownBlock = vl.ownBlock ∨ vl'.ownBlock = some wr.heap.size) (hf : ∀ i, i < p' → L' i < 256) : LZ w0 p' L' vl' q Q va w' := by
  have hO := own_of_grown hg
  have hge : w0.heap.size ≤ vl.ownBlock.getD wr.heap.size := by
    cases e : vl.ownBlock with
    | none => simp; exact h.o.size
    | some b => simp; exact (h.l.lt b e).1
  refine ⟨hG, hf, h.a.ownN hO fun j hj => grown_ne (w' := w') j (h.a.lt j hj).2 (fun k hk e => h.n j hj (by rw [hk, e])), h.f, h.o.trans (hO.below hge h.o.size), ?_, h.gv0, fun j hj => ?_⟩
  · exact h.v.own hO (by have := h.gv0; omega) (by have := h.gv0; omega)
  · rcases hob with e | e
    · rw [e]; exact h.n j hj
    · rw [e]; intro e2; cases e2; exact absurd (h.a.lt _ hj).2 (Nat.lt_irrefl _)
/-- The longer key is begun. -/
theorem KZ.longer {w0 : World} {k gi go A q n : Nat} {W F Q K : Nat → Nat} {va vl : Value} {wr w' : World} (h : KZ w0 k gi go W A F q Q va wr) (hK : ∀ i, i < n → K i < 256)
    (hG : Grow w' w0.heap.size vl (0 + n) (catF 0 (fun _ => 0) K)) (hg : (wr.alloc (.cells #[] 5)).grownBy w' (some wr.heap.size)) (hob : vl.ownBlock = some wr.heap.size ∨ vl.ownBlock = some (wr.heap.size + 1)) : LZ w0 n K vl q Q va w' := by
  have ha : Below wr.heap.size wr (wr.alloc (.cells #[] 5)) := (Below.refl _ _).alloc (Nat.le_refl _) _
  have hO : Own wr.heap.size (wr.alloc (.cells #[] 5)) w' := ⟨hg.os, hg.tape, hg.output, hg.size, fun k hk hn => hg.block k hk (fun e => hn (by cases e; rfl))⟩
  have h2 : Below wr.heap.size wr w' := ha.trans (hO.below (Nat.le_refl _) (by simp))
  have hh := h.later h2
  rw [Nat.zero_add] at hG
  refine ⟨hG.congr fun i _ => by rw [catF_hi (Nat.not_lt_zero _), Nat.sub_zero], hK, hh.a, hh.f, hh.o, hh.v, hh.gv0, fun j hj e => ?_⟩
  have := (h.a.lt j hj).2
  rcases hob with e2 | e2
  · rw [e] at e2; cases e2; omega
  · rw [e] at e2; cases e2; omega
def zp (n : Nat) (K : Nat → Nat) : Nat → Nat := fun i => if i < n then K i else 0
theorem zp_step {n p : Nat} {K : Nat → Nat} (hp : n ≤ p) : ∀ i, i < p + 1 → catF p (zp n K) (fun _ => 0) i = zp n K i := fun i hi => by
  by_cases e : i < p
  · rw [catF_lo e]
  · rw [catF_hi e]; unfold zp; rw [if_neg (by omega)]
theorem whole_zp {n p : Nat} {K : Nat → Nat} (h1 : n ≤ p) (h2 : p ≤ 64) : whK p (zp n K) = whK n K := by
  funext i
  unfold whK zp
  rw [if_neg (by omega : ¬ 64 < p), if_neg (by omega : ¬ 64 < n)]
  by_cases e : i < p
  · rw [if_pos e]
  · rw [if_neg e, if_neg (by omega)]
theorem zero_byte {w : World} : Bytes (w.alloc (.cells #[.int .u8 0] 5)) (some ⟨w.heap.size, 0, none⟩) 1 (fun _ => 0) := fun k hk => ⟨by show 0 < 256; decide, w.heap.size, 0, rfl, by
  obtain rfl : k = 0 := by omega
  exact World.cell?_alloc_mark w #[.int .u8 0] 5 (0, 0) 0⟩
set_option maxRecDepth 100000 in
set_option maxHeartbeats 8000000 in
theorem hpieces_any (oa : Option Addr) (n cn : Nat) (K : Nat → Nat) (op : Option Addr) (m cm : Nat) (L : Nat → Nat) (G : Nat → Nat → Nat) (z : Nat) (w : World) (hb : Bytes w oa n K) (hnc : n ≤ cn) (hno : oa = none → n = 0) (hcn : cn ≤ maxLen) (hL : LBs w op m L G) (hm : m ≤ maxLen) (hz8 : z < 256) (hg : GV w) :
    Calls Tryd.prog 5 #[.slice oa n cn, .slice op m cm, .int .u8 (z : Nat)] w fun e w' => e = .returned (.bool true) ∧ Below w.heap.size w w' := by
  unfold maxLen at hcn hm
  have HG := Lib.hid hg
  have HLB := Lib.hid hL
  have HK := Lib.hid hb
  have HKL : Hid (∀ w', Below w.heap.size w w' → Bytes w' oa n K) := Lib.hid fun w' h => hb.later h
  have HK8 : Hid (∀ i, i < n → K i < 256) := Lib.hid fun i hi => (hb i hi).1
  have HNC := Lib.hid hnc
  have HNO := Lib.hid hno
  have HMM : Hid (∀ ox p cx P ob q cp F X w', (rowC 32 (hmN p P q F)).toArray = X → Bytes w' ox p P → p ≤ cx → (ox = none → p = 0) → p < 100000 → Bytes w' ob q F → q ≤ cp → q < 100000 → GV w' → Calls Tryd.prog 21 #[.slice ox p cx, .slice ob q cp] w' fun e w'' => e = .returned (.agg X) ∧ Below w'.heap.size w' w'') := Lib.hid fun ox p cx P ob q cp F X w' hX h1 h2 h3 h4 h5 h6 h7 h8 => by
    rw [← hX]; exact mac_any ox ob p cx q cp P F w' h1 h2 h3 (by omega) h5 h6 (by omega) h8
  have HSM : Hid (∀ k gi go q F X w', (rowC 32 (hmN n K q F)).toArray = X → q < 100000 → KH w' k gi go (whK n K) q F → GV w' → Calls Tryd.prog 20 #[.pointer (some ⟨k, 0, none⟩)] w' fun e w'' => e = .returned (.agg X) ∧ Below w'.heap.size w' w'') := Lib.hid fun k gi go q F X w' hX hq h h' => by
    rw [← hX]; exact ksum_any k gi go q _ F w' h (by omega) h'
  have HEQ : Hid (∀ q F X, (rowC 32 (hmN n K q F)).toArray = X → ∀ w, (Op.equalIn 10000 27 (.agg X) (.agg X)).run Tryd.prog w = .ok true w) := Lib.hid fun q F X hX w => by
    rw [← hX]; have := eq32 (hmN n K q F) (hmN n K q F) w; rw [eqS_refl] at this; exact this
  have hn0 : (n : Int) ≤ 9223372036854775807 := by omega
  have hm0 : (m : Int) ≤ 9223372036854775807 := by omega
  clear hg hL hb hnc hno hcn
  go_enter Tryd.func5, Tryd.ntmps5
  have hcs : (300 : Int) < (n : Int) ∨ (¬ (300 : Int) < (n : Int) ∧ (12 : Int) < (m : Int)) ∨ (¬ (300 : Int) < (n : Int) ∧ ¬ (12 : Int) < (m : Int)) := by omega
  rcases hcs with h1 | ⟨h1, h2⟩ | ⟨h1, h2⟩
  · have h0 : True := trivial
    go_wp2_with fail
    refine (hmac_sure _ HG.out).mono ?_
    rintro e w5 ⟨rfl, hb5⟩
    have HO := Lib.hid hb5
    clear hb5
    go_wp2_with fail
    go_ret
    exact ⟨rfl, HO.out⟩
  · have h0 : True := trivial
    go_wp2_with fail
    refine (hmac_sure _ HG.out).mono ?_
    rintro e w5 ⟨rfl, hb5⟩
    have HO := Lib.hid hb5
    clear hb5
    go_wp2_with fail
    go_ret
    exact ⟨rfl, HO.out⟩
  · have HN : Hid (n ≤ 300 ∧ m ≤ 12) := Lib.hid (by omega)
    clear hm
    go_wp2_with fail
    refine (hmnew_any oa n cn K _ HK.out HNC.out (by have := HN.out; omega) HNO.out HG.out).mono ?_
    rintro e w1 ⟨k, gi, go, rfl, hK, hb1, hk1, hk2, hk3⟩
    have H1 : Hid (KZ w k gi go (whK n K) 0 (fun _ => 0) 0 (fun _ => 0) (.slice none 0 0) w1) := Lib.hid ⟨hK _, Grow.nil _ _ _, fun i hi => absurd hi (Nat.not_lt_zero _), hb1, HG.out.later hb1, ⟨by omega, by omega, by omega⟩, HG.out.lt, fun j hj => (by cases hj)⟩
    clear hK hb1 hk1 hk2 hk3
    go_wp2_with fail
    go_loopw [8, 9] (fun va v wr => ∃ (i q : Nat) (F : Nat → Nat), i ≤ m ∧ v = .int .i64 (i : Int) ∧ q ≤ 200 * i ∧ KZ w k gi go (whK n K) q F q F va wr) (fun _ v _ => m - (intOf v).toNat)
    case atStart => exact ⟨0, 0, _, Nat.zero_le _, rfl, Nat.zero_le _, H1.out⟩
    case round =>
      clear H1
      obtain ⟨i, q, F, him, rfl, hq, hZ⟩ := hrel
      have HZ := Lib.hid hZ
      clear hZ
      by_cases hlt : i < m
      · have i0 : (0 : Int) ≤ (i : Int) := by omega
        have i1 : (i : Int) < (m : Int) := by omega
        have in1 : i < m := hlt
        have iw : (i : Int) + 1 ≤ 9223372036854775807 := by have := HN.out; omega
        obtain ⟨lb, lo, od, cpi, rfl, hcell, hle, hby, hno, hcm⟩ := HLB.out i hlt
        have hlbl : lb < w.heap.size := by
          rcases Nat.lt_or_ge lb w.heap.size with h' | h'
          · exact h'
          · simp [World.cell?, Array.getElem?_eq_none h'] at hcell
        obtain ⟨l, hl⟩ : ∃ l, L i = l := ⟨_, rfl⟩
        obtain ⟨Gi, hGi⟩ : ∃ l, G i = l := ⟨_, rfl⟩
        rw [hl] at hcell hle hby hno
        rw [hGi] at hby
        have HCELL : Hid (∀ w', Below w.heap.size w w' → w'.cell? ⟨lb, lo + i, none⟩ = some (.slice od l cpi)) := Lib.hid fun w' h => cell_belowB h hlbl hcell
        have HBY : Hid (∀ w', Below w.heap.size w w' → Bytes w' od l Gi) := Lib.hid fun w' h => hby.later h
        have HLT : Hid (∀ a, od = some a → 0 < l → a.block < w.heap.size) := Lib.hid hby.lt
        have HG8 : Hid (∀ k, k < l → Gi k < 256) := Lib.hid fun k hk => (hby k hk).1
        have HNOL := Lib.hid hno
        have HLE := Lib.hid hle
        have HQ : Hid (q ≤ 200 * i ∧ i < m ∧ m ≤ 12) := Lib.hid ⟨hq, hlt, HN.out.2⟩
        have hc1 := HCELL.out _ HZ.out.o
        have hl0 : (l : Int) ≤ 9223372036854775807 := by unfold maxLen at hcm; omega
        clear hcell hle hby hno hcm hlbl hl hGi hq hlt him
        by_cases h200 : 200 < l
        · have h3 : (200 : Int) < (l : Int) := by omega
          clear h200
          go_wp2_with fail
          clear hc1
          go_roundw
          case rel => exact ⟨i + 1, q, F, by have := HQ.out; omega, by go_num, by have := HQ.out; omega, HZ.out⟩
          case measure => have := HQ.out; simp [intOf] <;> omega
        · have h3 : ¬ (200 : Int) < (l : Int) := by omega
          have HL3 : Hid (l ≤ 200) := Lib.hid (by omega)
          clear h200
          obtain ⟨FF, hFF⟩ : ∃ FF, catF q F Gi = FF := ⟨_, rfl⟩
          obtain ⟨X, hX⟩ : ∃ X, (rowC 32 (hmN n K (q + l) FF)).toArray = X := ⟨_, rfl⟩
          have HF8 : Hid (∀ k, k < q + l → FF k < 256) := Lib.hid (by rw [← hFF]; exact catF_lt HZ.out.f HG8.out)
          have HX := Lib.hid hX
          have HFF := Lib.hid hFF
          clear hFF hX
          go_wp2_with fail
          refine (kwrite_any k gi go q l cpi od _ F Gi _ HZ.out.h (HBY.out _ HZ.out.o) HLE.out (fun a ha hl => by have := HLT.out a ha hl; have := HZ.out.b; omega) (by have := HQ.out; have := HL3.out; omega) HZ.out.v).mono ?_
          rintro e w5 ⟨rfl, hS, hO⟩
          have H5 := Lib.hid (HZ.out.wrote (HFF.out ▸ hS) hO)
          clear hS hO hc1 HZ
          have hc1 := HCELL.out _ H5.out.o
          go_wp2_with (first | (refine wpList_appO rfl (.tmp 41) (.tmp 45) rfl w.heap.size _ q l cpi od F Gi w5 rfl H5.out.a rfl HNOL.out (HBY.out _ H5.out.o) (by have := HQ.out; have := HL3.out; omega) H5.out.o.size ?_; intro va' w6 hG6 hg6 hob6))
          have H6 := Lib.hid (H5.out.grew hg6 (HFF.out ▸ hG6) hob6 HF8.out)
          clear hG6 hg6 hob6 H5 hc1
          refine (HSM.out k gi go (q + l) FF X _ HX.out (by have := HQ.out; have := HL3.out; omega) H6.out.h H6.out.v).mono ?_
          rintro e w7 ⟨rfl, hb7⟩
          have H7 := Lib.hid (H6.out.later hb7)
          clear hb7 H6
          obtain ⟨oa6, cap6, hva, hB6, hc6, _⟩ := H7.out.a.bytesC H7.out.f
          subst hva
          have HB6 := Lib.hid hB6
          have HC6 := Lib.hid hc6
          clear hB6 hc6
          go_wp2_with fail
          refine (HMM.out oa n cn K oa6 (q + l) cap6 FF X _ HX.out (HKL.out _ H7.out.o) HNC.out HNO.out (by have := HN.out; omega) HB6.out HC6.out (by have := HQ.out; have := HL3.out; omega) H7.out.v).mono ?_
          rintro e w8 ⟨rfl, hb8⟩
          have H8 := Lib.hid (H7.out.later hb8)
          clear hb8 H7
          go_wp2_with (first | (refine wpList_value rfl (exec_neq32 (x := .tmp 48) (y := .tmp 51) rfl rfl rfl (HEQ.out _ _ _ HX.out)) (wpList_nil ?_); go_simp))
          go_roundw
          case rel => exact ⟨i + 1, q + l, FF, by have := HQ.out; omega, by go_num, by have := HQ.out; have := HL3.out; omega, H8.out⟩
          case measure => have := HQ.out; simp [intOf] <;> omega
      · have i1 : ¬ (i : Int) < (m : Int) := by omega
        have HQ : Hid (q ≤ 2400) := Lib.hid (by have := HN.out; omega)
        clear hlt hq him
        by_cases h64 : 64 < n
        · have h3 : ¬ (n : Int) ≤ 64 := by omega
          clear h64
          go_wp2_with fail
          refine (hmac_sure _ HZ.out.v).mono ?_
          rintro e w5 ⟨rfl, hb5⟩
          have HO := Lib.hid (HZ.out.o.trans (hb5.mono HZ.out.o.size))
          clear hb5 HZ
          go_wp2_with fail
          go_ret
          exact ⟨rfl, HO.out⟩
        · have h3 : (n : Int) ≤ 64 := by omega
          have HL3 : Hid (n ≤ 64) := Lib.hid (by omega)
          clear h64
          have HGE : Hid (Grow (wr.alloc (.cells #[] 5)) w.heap.size (.slice (some ⟨wr.heap.size, 0, none⟩) 0 0) 0 (fun _ => 0)) := Lib.hid (Grow.empty (Blk.new wr #[] _) HZ.out.o.size _)
          have HBA : Hid (Bytes (wr.alloc (.cells #[] 5)) oa n K) := Lib.hid ((HKL.out _ HZ.out.o).later ((Below.refl _ _).alloc (Nat.le_refl _) _))
          have HSZ : Hid (w.heap.size ≤ (wr.alloc (.cells #[] 5)).heap.size) := Lib.hid (by simp; have := HZ.out.o.size; omega)
          go_wp2_with (first | (refine wpList_appO rfl (.tmp 56) (.tmp 57) rfl w.heap.size (.slice (some ⟨wr.heap.size, 0, none⟩) 0 0) 0 n cn oa (fun _ => 0) K (wr.alloc (.cells #[] 5)) rfl HGE.out rfl HNO.out HBA.out (by have := HL3.out; omega) HSZ.out ?_; intro vl w3 hG3 hg3 hob3; have H3 := Lib.hid (HZ.out.longer HK8.out hG3 hg3 (hob_or hob3)); clear hG3 hg3 hob3))
          clear HGE HBA HSZ HZ
          obtain ⟨zr, hzr⟩ : ∃ r, z % 64 = r := ⟨_, rfl⟩
          have HZR : Hid (zr < 64) := Lib.hid (by rw [← hzr]; exact Nat.mod_lt _ (by decide))
          have zm : (z : Int) % 64 = (zr : Int) := by omega
          have zt : (z : Int).tmod 64 = (zr : Int) := by rw [Int.tmod_eq_emod_of_nonneg (by omega)]; exact zm
          clear hzr
          go_loopw [10, 11] (fun vl v wr => ∃ (j p : Nat), j ≤ 64 ∧ v = .int .i64 (j : Int) ∧ n ≤ p ∧ p ≤ 64 ∧ LZ w p (zp n K) vl q F u8 wr) (fun _ v _ => 64 - (intOf v).toNat)
          case atStart => exact ⟨0, n, Nat.zero_le _, rfl, Nat.le_refl _, HL3.out, H3.out.congr fun i hi => (if_pos hi).symm⟩
          case round =>
            clear H3
            obtain ⟨j, p, hj, rfl, hnp, hp, hX⟩ := hrel
            have HX := Lib.hid hX
            clear hX
            have HP : Hid (n ≤ p ∧ p ≤ 64) := Lib.hid ⟨hnp, hp⟩
            obtain ⟨ol, cl, hvl, hBl, hcl, hol⟩ := HX.out.l.bytesC HX.out.lf
            subst hvl
            have HBL := Lib.hid hBl
            have HCL : Hid (p ≤ cl ∧ (ol = none → p = 0)) := Lib.hid ⟨hcl, hol⟩
            clear hBl hcl hol
            have hcs : ((j : Int) < (zr : Int) ∧ (p : Int) < 64) ∨ ¬ (j : Int) < (zr : Int) ∨ ((j : Int) < (zr : Int) ∧ ¬ (p : Int) < 64) := by omega
            by_cases hgo : j < zr ∧ p < 64
            · have c1 : (j : Int) < (zr : Int) := by omega
              have c2 : (p : Int) < 64 := by omega
              have HJ : Hid (j + 1 ≤ 64 ∧ p + 1 ≤ 64) := Lib.hid (by have := HZR.out; omega)
              clear hcs hgo hj hnp hp HBL
              have HAL : Hid (LZ w p (zp n K) (.slice ol p cl) q F u8 (wr.alloc (.cells #[.int .u8 0] 5))) := Lib.hid (HX.out.later ((Below.refl _ _).alloc (Nat.le_refl _) _))
              go_wp2_with (first | (refine wpList_appO rfl (.tmp 71) (.tmp 72) rfl w.heap.size (.slice ol p cl) p 1 1 (some ⟨wr.heap.size, 0, none⟩) (zp n K) (fun _ => 0) (wr.alloc (.cells #[.int .u8 0] 5)) rfl HAL.out.l rfl (fun h => by cases h) zero_byte (by have := HP.out; omega) HAL.out.o.size ?_; intro vl' w6 hG6 hg6 hob6; have H6 := Lib.hid (HAL.out.grew hg6 (hG6.congr (zp_step HP.out.1)) hob6 (fun i hi => by unfold zp; by_cases e : i < n; (rw [if_pos e]; exact HK8.out i e); (rw [if_neg e]; decide))); clear hG6 hg6 hob6))
              clear HAL HX
              go_roundw
              case rel => exact ⟨j + 1, p + 1, HJ.out.1, by go_num, by have := HP.out; omega, HJ.out.2, H6.out⟩
              case measure => have := HJ.out; simp [intOf] <;> omega
            · have hcs2 : ¬ (j : Int) < (zr : Int) ∨ ((j : Int) < (zr : Int) ∧ ¬ (p : Int) < 64) := by omega
              obtain ⟨oa8, cap8, hva8, hB8, hc8, _⟩ := HX.out.a.bytesC HX.out.f
              subst hva8
              have HB8 := Lib.hid hB8
              have HC8 := Lib.hid hc8
              obtain ⟨X, hX⟩ : ∃ X, (rowC 32 (hmN n K q F)).toArray = X := ⟨_, rfl⟩
              have HXX := Lib.hid hX
              have HXP : Hid ((rowC 32 (hmN p (zp n K) q F)).toArray = X) := Lib.hid (by rw [← hX]; unfold hmN; rw [whole_zp HP.out.1 HP.out.2])
              clear hB8 hc8 hX hcs hgo hj hnp hp
              rcases hcs2 with c1 | ⟨c1, c2⟩
              · have h0 : True := trivial
                go_wp2_with fail
                refine (HMM.out ol p cl (zp n K) oa8 q cap8 F X _ HXP.out HBL.out HCL.out.1 HCL.out.2 (by have := HP.out; omega) HB8.out HC8.out (by have := HQ.out; omega) HX.out.v).mono ?_
                rintro e w6 ⟨rfl, hb6⟩
                have H6 := Lib.hid (HX.out.later hb6)
                have HB9 := Lib.hid (HB8.out.later hb6)
                clear hb6 HX HB8 HBL
                go_wp2_with fail
                refine (HMM.out oa n cn K oa8 q cap8 F X _ HXX.out (HKL.out _ H6.out.o) HNC.out HNO.out (by have := HN.out; omega) HB9.out HC8.out (by have := HQ.out; omega) H6.out.v).mono ?_
                rintro e w7 ⟨rfl, hb7⟩
                have H7 := Lib.hid (H6.out.later hb7)
                clear hb7 H6
                go_wp2_with (first | (refine wpList_value rfl (exec_neq32 (x := .tmp 76) (y := .tmp 79) rfl rfl rfl (HEQ.out _ _ _ HXX.out)) (wpList_nil ?_); go_simp))
                refine (hmac_sure _ H7.out.v).mono ?_
                rintro e w8 ⟨rfl, hb8⟩
                have HO := Lib.hid (H7.out.o.trans (hb8.mono H7.out.o.size))
                clear hb8 H7
                go_wp2_with fail
                go_ret
                exact ⟨rfl, HO.out⟩
              · have h0 : True := trivial
                go_wp2_with fail
                refine (HMM.out ol p cl (zp n K) oa8 q cap8 F X _ HXP.out HBL.out HCL.out.1 HCL.out.2 (by have := HP.out; omega) HB8.out HC8.out (by have := HQ.out; omega) HX.out.v).mono ?_
                rintro e w6 ⟨rfl, hb6⟩
                have H6 := Lib.hid (HX.out.later hb6)
                have HB9 := Lib.hid (HB8.out.later hb6)
                clear hb6 HX HB8 HBL
                go_wp2_with fail
                refine (HMM.out oa n cn K oa8 q cap8 F X _ HXX.out (HKL.out _ H6.out.o) HNC.out HNO.out (by have := HN.out; omega) HB9.out HC8.out (by have := HQ.out; omega) H6.out.v).mono ?_
                rintro e w7 ⟨rfl, hb7⟩
                have H7 := Lib.hid (H6.out.later hb7)
                clear hb7 H6
                go_wp2_with (first | (refine wpList_value rfl (exec_neq32 (x := .tmp 76) (y := .tmp 79) rfl rfl rfl (HEQ.out _ _ _ HXX.out)) (wpList_nil ?_); go_simp))
                refine (hmac_sure _ H7.out.v).mono ?_
                rintro e w8 ⟨rfl, hb8⟩
                have HO := Lib.hid (H7.out.o.trans (hb8.mono H7.out.o.size))
                clear hb8 H7
                go_wp2_with fail
                go_ret
                exact ⟨rfl, HO.out⟩
end Go.Proofs.YtbblibddikdakaaDoor
