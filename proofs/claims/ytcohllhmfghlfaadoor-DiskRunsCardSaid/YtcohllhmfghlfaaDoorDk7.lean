/- A disk: the statements' sector, and what must come whatever the input is. -/
import Derived.Test.YtcohllhmfghlfaaDoorDk4
import Derived.Test.YtcohllhmfghlfaaDoorDk6
import Derived.Test.YtcohllhmfghlfaaDoorNum13
import Derived.Test.YtcohllhmfghlfaaDoorFrz
namespace Go.Proofs.YtcohllhmfghlfaaDoor
set_option linter.unusedVariables false
set_option linter.unusedSimpArgs false
open Go.RowKit

def secF (n : Nat) (f : Nat → Nat) (k : Nat) : Nat := if k < n then f k else 0
theorem secF_splice {n : Nat} {K : Nat → Nat} (h : n ≤ 64) : splice (rowC 64 (fun _ => 0)) 0 (rowC n K) = rowC 64 (secF n K) := by
  refine List.ext_getElem? fun i => ?_
  rw [splice_get (by rw [rowC_len, rowC_len]; omega), if_neg (Nat.not_lt_zero _), rowC_len, Nat.zero_add, Nat.sub_zero]
  by_cases h1 : i < n
  · rw [if_pos h1, rowC_get _ h1, rowC_get _ (by omega)]
    unfold secF; rw [if_pos h1]
  · rw [if_neg h1]
    by_cases h2 : i < 64
    · rw [rowC_get _ h2, rowC_get _ h2]; unfold secF; rw [if_neg h1]
    · rw [List.getElem?_eq_none (by rw [rowC_len]; omega), List.getElem?_eq_none (by rw [rowC_len]; omega)]
set_option maxRecDepth 100000 in
set_option maxHeartbeats 4000000 in
theorem sector_any (oa : Option Addr) (n cap : Nat) (f : Nat → Nat) (w : World) (hB : Bytes w oa n f) (hn : n ≤ 64) :
    Calls Tryd.prog 11 #[.slice oa n cap] w fun e w' => e = .returned (.slice (some ⟨w.heap.size, 0, none⟩) 64 64) ∧ Row w' w.heap.size 64 (secF n f) ∧ Below w.heap.size w w' := by
  obtain ⟨w1, hw1⟩ : ∃ x, w.alloc (.cells (rowC 64 (fun _ => 0)).toArray 5) = x := ⟨_, rfl⟩
  have hb1 : Below w.heap.size w w1 := by rw [← hw1]; exact (Below.refl _ _).alloc (Nat.le_refl _) _
  have hR1 : Row w1 w.heap.size 64 (fun _ => 0) := by rw [← hw1]; exact Blk.new _ _ _
  have hB1 := hB.later hb1
  obtain ⟨CS, hCS⟩ : ∃ C, rowC n f = C := ⟨_, rfl⟩
  have HCS : Hid (CS.length = n ∧ (∀ v ∈ CS, v.oneCell' = true) ∧ (0 < CS.length → ∃ ad, oa = some ad ∧ ∀ j v, CS[j]? = some v → w1.cell? (ad.add j) = some v)) := Lib.hid (by
    rw [← hCS]
    refine ⟨rowC_len _ _, rowC_one _ _, fun hp => ?_⟩
    rw [rowC_len] at hp
    obtain ⟨_, b, off, hoa, _⟩ := hB1 0 hp
    refine ⟨_, hoa, fun j v hv => ?_⟩
    have hj : j < n := by have := (List.getElem?_eq_some_iff.1 hv).1; rw [rowC_len] at this; exact this
    rw [rowC_get _ hj] at hv
    obtain ⟨_, b', off', hoa', hcell⟩ := hB1 j hj
    rw [hoa] at hoa'; cases hoa'
    rw [Addr.add_mid]
    exact hcell.trans hv)
  have HSP : Hid (splice (rowC 64 (fun _ => 0)) 0 CS = rowC 64 (secF n f)) := Lib.hid (by rw [← hCS]; exact secF_splice hn)
  have H1 := Lib.hid (show Row w1 w.heap.size 64 (fun _ => 0) ∧ Below w.heap.size w w1 ∧ n ≤ 64 from ⟨hR1, hb1, hn⟩)
  clear hB hB1 hb1 hR1 hCS hn
  go_enter Tryd.func11, Tryd.ntmps11
  go_wp2_with (first
    | (refine wpList_mk rfl (.const (.int .i64 64)) (.const (.int .i64 64)) rfl 64 rfl rfl (by decide) ?_; rw [hw1]; clear hw1)
    | (refine wpList_copy_splice rfl (.tmp 5) (.tmp 6) 22 22 rfl 5 Tryd.underlying22 info_u8s (some ⟨w.heap.size, 0, none⟩) oa 64 64 n cap rfl rfl w.heap.size 0 (rowC 64 (fun _ => 0)) 5 H1.out.1 CS (by rw [HCS.out.1]; have := H1.out.2.2; show n = min n 64; omega) (fun hp => ⟨rfl, HCS.out.2.2 hp⟩) (by rw [HCS.out.1, rowC_len]; have := H1.out.2.2; omega) HCS.out.2.1 w.heap.size w H1.out.2.1 (Nat.le_refl _) ?_; intro w4 h4 hb4; rw [HSP.out] at h4; have H4 := Lib.hid (show Row w4 w.heap.size 64 (secF n f) ∧ Below w.heap.size w w4 from ⟨h4, hb4⟩); rw [HCS.out.1]; clear h4 hb4))
  go_ret
  exact ⟨rfl, H4.out.1, H4.out.2⟩
theorem DK.fresh {w : World} {B d sb pb : Nat} {v : Value} {s : DS} (h : DK w B d sb v s) (hp : w.heap.size ≤ pb) : pb ≠ d ∧ pb ≠ sb ∧ v.ownBlock ≠ some pb := by
  obtain ⟨h1, h2, h3⟩ := h.lt
  exact ⟨by omega, by omega, fun e => by have := (h3 _ e).2; omega⟩
/-- A disk that we hold: made since w. -/
def DX (w : World) (d sb : Nat) (v : Value) (s : DS) (A : World) : Prop := DK A w.heap.size d sb v s ∧ Below w.heap.size w A
theorem DX.later {w A A' : World} {d sb : Nat} {v : Value} {s : DS} (h : DX w d sb v s A) (hb : Below A.heap.size A A') : DX w d sb v s A' := ⟨h.1.later hb, h.2.trans (hb.mono h.2.size)⟩
theorem DX.dn {w A A' : World} {d sb : Nat} {v v' : Value} {s s' : DS} (h : DX w d sb v s A) (hn : Dn A A' w.heap.size d sb v v' s') : DX w d sb v' s' A' := ⟨hn.dk, h.2.trans (hn.below h.1)⟩
theorem write_up {w A A0 : World} {d sb i pb : Nat} {v : Value} {s : DS} {F : Nat → Nat} (h0 : DK A0 w.heap.size d sb v s) (h : DX w d sb v s A) (hp : A0.heap.size ≤ pb) (hi : i < s.n) (hF : Row A pb 64 F) (hF8 : ∀ k, k < 64 → F k < 256) (hnw : s.nw + 1 < 100000000) (hu : (stepS s).dn = false) :
    Calls Tryd.prog 10 #[.pointer (some ⟨d, 0, none⟩), .int .i64 (i : Int), .slice (some ⟨pb, 0, none⟩) 64 64] A fun e A' => e = .returned .nilIface ∧ ∃ v', DX w d sb v' (putS (stepS s) i F) A' := by
  refine (write_any h.1 i pb 0 64 F hi (hF.bytes hF8) hnw (h0.fresh hp)).mono ?_
  rintro e A' ⟨rfl, v', hn⟩
  rw [hu] at hn ⊢
  exact ⟨rfl, v', h.dn hn⟩
theorem write_down {w A A0 : World} {d sb i pb : Nat} {v : Value} {s : DS} {F : Nat → Nat} (h0 : DK A0 w.heap.size d sb v s) (h : DX w d sb v s A) (hp : A0.heap.size ≤ pb) (hi : i < s.n) (hF : Row A pb 64 F) (hF8 : ∀ k, k < 64 → F k < 256) (hnw : s.nw + 1 < 100000000) (hu : (stepS s).dn = true) :
    Calls Tryd.prog 10 #[.pointer (some ⟨d, 0, none⟩), .int .i64 (i : Int), .slice (some ⟨pb, 0, none⟩) 64 64] A fun e A' => e = .returned (.iface 60 (.int .i64 23)) ∧ ∃ v', DX w d sb v' (stepS s) A' := by
  refine (write_any h.1 i pb 0 64 F hi (hF.bytes hF8) hnw (h0.fresh hp)).mono ?_
  rintro e A' ⟨rfl, v', hn⟩
  rw [hu] at hn ⊢
  exact ⟨rfl, v', h.dn hn⟩
theorem sync_up {w A : World} {d sb : Nat} {v : Value} {s : DS} (h : DX w d sb v s A) (hu : (stepS s).dn = false) :
    Calls Tryd.prog 9 #[.pointer (some ⟨d, 0, none⟩)] A fun e A' => e = .returned .nilIface ∧ ∃ v', DX w d sb v' (setS (stepS s) allK) A' := by
  refine (sync_any h.1).mono ?_
  rintro e A' ⟨rfl, v', hn⟩
  rw [hu] at hn ⊢
  exact ⟨rfl, v', h.dn hn⟩
theorem sync_down {w A : World} {d sb : Nat} {v : Value} {s : DS} (h : DX w d sb v s A) (hu : (stepS s).dn = true) :
    Calls Tryd.prog 9 #[.pointer (some ⟨d, 0, none⟩)] A fun e A' => e = .returned (.iface 60 (.int .i64 23)) ∧ ∃ v', DX w d sb v' (stepS s) A' := by
  refine (sync_any h.1).mono ?_
  rintro e A' ⟨rfl, v', hn⟩
  rw [hu] at hn ⊢
  exact ⟨rfl, v', h.dn hn⟩
theorem arm_ok {w A : World} {d sb : Nat} {v : Value} {s : DS} (h : DX w d sb v s A) (k : Nat) (hk : k < 9223372036854775808) :
    Calls Tryd.prog 8 #[.pointer (some ⟨d, 0, none⟩), .int .i64 (k : Int)] A fun e A' => e = .returned .nilIface ∧ DX w d sb v { s with ar := k } A' := by
  refine (arm_any h.1 k hk).mono ?_
  rintro e A' ⟨rfl, hn⟩
  exact ⟨rfl, h.dn hn⟩
theorem crash_nil {w A : World} {d sb : Nat} {v : Value} {s : DS} (h : DX w d sb v s A) :
    Calls Tryd.prog 14 #[.pointer (some ⟨d, 0, none⟩), .slice none 0 0] A fun e A' => (∃ x, e = .returned x) ∧ DX w d sb (.slice none 0 0) (crashS s (keepP 0 (fun _ => false))) A' := by
  refine (crash_any h.1 0 0 none (fun _ => false) (fun k hk => absurd hk (Nat.not_lt_zero _)) (fun a e _ => by cases e) (Nat.zero_le _)).mono ?_
  rintro e A' ⟨hx, hn⟩
  exact ⟨hx, h.dn hn⟩
theorem lit_bytes (w : World) (x : Nat) (hx : x < 256) : Below w.heap.size w ((w.alloc (.cells #[.int .u8 (x : Int)] 5)).freeze ⟨w.heap.size, 1, none⟩ 1) ∧ Bytes ((w.alloc (.cells #[.int .u8 (x : Int)] 5)).freeze ⟨w.heap.size, 1, none⟩ 1) (some ⟨w.heap.size, 0, none⟩) 1 (fun _ => x) := by
  have hb : Below w.heap.size w (w.alloc (.cells #[.int .u8 (x : Int)] 5)) := (Below.refl _ _).alloc (Nat.le_refl _) _
  refine ⟨hb.trans ((Own.frz _ _ _ _).below (Nat.le_refl _) hb.size), Bytes.frz (fun k hk => ⟨hx, w.heap.size, 0, rfl, ?_⟩) _ _⟩
  obtain rfl : k = 0 := by omega
  have h9 : Blk (w.alloc (.cells #[.int .u8 (x : Int)] 5)) w.heap.size #[.int .u8 (x : Int)] 5 := Blk.new _ _ _
  rw [Blk.cell h9]; rfl
theorem secF_lt {n : Nat} {f : Nat → Nat} (h : ∀ k, k < n → f k < 256) : ∀ k, k < 64 → secF n f k < 256 := fun k _ => by
  unfold secF; split
  · rename_i h1; exact h k h1
  · decide
theorem eq_gt {d : Nat} : True := trivial
set_option maxRecDepth 100000 in
set_option maxHeartbeats 8000000 in
theorem sure13 (w : World) (hg : Handle w) : Calls Tryd.prog 7 #[] w fun e w' => e = .returned (.bool true) ∧ Below w.heap.size w w' := by
  have HG := Lib.hid hg
  clear hg
  go_enter Tryd.func7, Tryd.ntmps7
  go_wp2_with fail
  refine (new_any 4 w (by decide) (by decide)).mono ?_
  rintro e A0 ⟨d, sb, rfl, hk, hb, h1, h2⟩
  have X0 := Lib.hid (show DX w d sb (.slice none 0 0) (newS 4) A0 from ⟨hk, hb⟩)
  clear hk hb h1 h2
  have hl1 := lit_bytes A0 97 (by decide)
  obtain ⟨W1, hW1⟩ : ∃ x, (A0.alloc (.cells #[.int .u8 97] 5)).freeze ⟨A0.heap.size, 1, none⟩ 1 = x := ⟨_, rfl⟩
  have hC1 := conv_shp (A0.alloc (.cells #[.int .u8 97] 5)) A0.heap.size 1 1 1 (Shp.blk (Blk.new _ _ _))
  rw [show (((97 : Nat) : Int)) = 97 from rfl, hW1] at hl1
  rw [hW1] at hC1
  have L1 := Lib.hid hl1
  have X1 := Lib.hid (X0.out.later hl1.1)
  have S1 := Lib.hid (sector_any (some ⟨A0.heap.size, 0, none⟩) 1 1 (fun _ => 97) W1 hl1.2 (by decide))
  clear hl1 hW1
  go_wp2_with fail
  clear hC1
  refine S1.out.mono ?_
  clear S1 L1
  rintro e V1 ⟨rfl, hr, hb⟩
  have Y1 := Lib.hid (X1.out.later hb)
  have R1 := Lib.hid hr
  clear hr hb
  go_wp2_with fail
  refine (write_up (F := secF 1 (fun _ => 97)) (i := 1) X1.out.1 Y1.out (Nat.le_refl _) (by decide) R1.out (secF_lt fun _ _ => by decide) (by decide) rfl).mono ?_
  rintro e A2 ⟨rfl, v2, hx⟩
  have X2 := Lib.hid hx
  clear hx X1 Y1 R1
  go_wp2_with fail
  refine (sync_up X2.out rfl).mono ?_
  rintro e A3 ⟨rfl, v3, hx⟩
  have X3 := Lib.hid hx
  clear hx X2
  have hl4 := lit_bytes A3 98 (by decide)
  obtain ⟨W4, hW4⟩ : ∃ x, (A3.alloc (.cells #[.int .u8 98] 5)).freeze ⟨A3.heap.size, 1, none⟩ 1 = x := ⟨_, rfl⟩
  have hC4 := conv_shp (A3.alloc (.cells #[.int .u8 98] 5)) A3.heap.size 1 1 1 (Shp.blk (Blk.new _ _ _))
  rw [show (((98 : Nat) : Int)) = 98 from rfl, hW4] at hl4
  rw [hW4] at hC4
  have L4 := Lib.hid hl4
  have X4 := Lib.hid (X3.out.later hl4.1)
  have S4 := Lib.hid (sector_any (some ⟨A3.heap.size, 0, none⟩) 1 1 (fun _ => 98) W4 hl4.2 (by decide))
  clear hl4 hW4
  go_wp2_with fail
  clear hC4
  refine S4.out.mono ?_
  clear S4 L4
  rintro e V4 ⟨rfl, hr, hb⟩
  have Y4 := Lib.hid (X4.out.later hb)
  have R4 := Lib.hid hr
  clear hr hb
  go_wp2_with fail
  refine (write_up (F := secF 1 (fun _ => 98)) (i := 1) X4.out.1 Y4.out (Nat.le_refl _) (by decide) R4.out (secF_lt fun _ _ => by decide) (by decide) rfl).mono ?_
  rintro e A5 ⟨rfl, v5, hx⟩
  have X5 := Lib.hid hx
  clear hx X4 Y4 R4
  go_wp2_with fail
  refine (arm_ok X5.out 1 (by decide)).mono ?_
  rintro e A6 ⟨rfl, hx⟩
  have X6 := Lib.hid hx
  clear hx X5
  go_wp2_with fail
  refine (sector_any none 0 0 (fun _ => 0) A6 (fun k hk => absurd hk (Nat.not_lt_zero _)) (by decide)).mono ?_
  rintro e V7 ⟨rfl, hr, hb⟩
  have X7 := X6
  have Y7 := Lib.hid (X6.out.later hb)
  have R7 := Lib.hid hr
  clear hr hb
  go_wp2_with fail
  refine (write_down (F := secF 0 (fun _ => 0)) (i := 2) X7.out.1 Y7.out (Nat.le_refl _) (by decide) R7.out (secF_lt fun _ _ => by decide) (by decide) rfl).mono ?_
  rintro e A8 ⟨rfl, v8, hx⟩
  have X8 := Lib.hid hx
  clear hx X7 Y7 R7
  go_wp2_with fail
  refine (down_any X8.out.1).mono ?_
  rintro e w9 ⟨he, rfl⟩
  obtain rfl : e = .returned (.bool true) := he
  go_wp2_with fail
  refine (crash_nil X8.out).mono ?_
  rintro e A9 ⟨⟨y, rfl⟩, hx⟩
  have X9 := Lib.hid hx
  clear hx X8
  go_wp2_with fail
  refine (read_any (i := 1) X9.out.1 (by decide)).mono ?_
  rintro e A10 ⟨hb, (⟨h, _⟩ | ⟨_, od, cq, rfl, h1, h2, h3, h4⟩)⟩
  · exact absurd h (by decide)
  obtain ⟨q1, b, off, rfl, hc⟩ := h4 0 (by decide)
  have hc : A10.cell? ⟨b, off, none⟩ = some (.int .u8 97) := hc
  have X10 := Lib.hid (X9.out.later hb)
  have HNM := Lib.hid (num_err 23 A10 (HG.out.below X10.out.2 HG.out.2))
  clear h1 h2 h3 h4 q1 hb X9
  go_wp2_with fail
  refine HNM.out.mono ?_
  rintro e A11 ⟨rfl, hb⟩
  have X11 := Lib.hid (X10.out.later hb)
  have hc : A11.cell? ⟨b, off, none⟩ = some (.int .u8 97) := cell_below hb hc
  clear hb HNM X10
  go_wp2_with fail
  refine (size_any X11.out.1).mono ?_
  rintro e A12 ⟨rfl, rfl⟩
  go_wp2_with fail
  go_ret
  exact ⟨rfl, X11.out.2⟩
end Go.Proofs.YtcohllhmfghlfaaDoor
