/- A sum with a key of some parts. -/
import Derived.Test.YtbblibddikdakaaDoorHm3
import Derived.Test.YtbblibddikdakaaDoorShL
namespace Go.Proofs.YtbblibddikdakaaDoor
set_option linter.unusedVariables false
set_option linter.unusedSimpArgs false
open Go.RowKit

/-- Parts, each told with its length, one behind the other. -/
def jlen (L : Nat → Nat) : Nat → Nat
  | 0 => 0
  | i + 1 => jlen L i + 4 + L i
def jfun (L : Nat → Nat) (G : Nat → Nat → Nat) : Nat → Nat → Nat
  | 0 => fun _ => 0
  | i + 1 => catF (jlen L i + 4) (catF (jlen L i) (jfun L G i) (numB (L i) 4)) (G i)
theorem jlen_mono (L : Nat → Nat) : ∀ {n i : Nat}, i ≤ n → jlen L i ≤ jlen L n := by
  intro n
  induction n with
  | zero => intro i h; obtain rfl : i = 0 := by omega
            exact Nat.le_refl _
  | succ n ih =>
    intro i h
    by_cases e : i = n + 1
    · subst e; exact Nat.le_refl _
    · exact Nat.le_trans (ih (by omega)) (by show _ ≤ jlen L n + 4 + L n; omega)
structure PS (w0 : World) (k gi go : Nat) (W : Nat → Nat) (m : Nat) (G : Nat → Nat) (wr : World) : Prop where
  h : KH wr k gi go W m G
  o : Below w0.heap.size w0 wr
  v : GV wr
  r : RB 27 32 w0.heap.size (fun _ => 0) wr
  n : w0.heap.size < gi
theorem PS.later {w0 : World} {k gi go m : Nat} {W G : Nat → Nat} {wr w' : World} (h : PS w0 k gi go W m G wr) (hb : Below wr.heap.size wr w') : PS w0 k gi go W m G w' :=
  ⟨h.h.later hb, h.o.trans (hb.mono h.o.size), h.v.later hb, Blk.below h.r hb (Blk.lt h.r), h.n⟩
theorem PS.wrote {w0 : World} {k gi go m l : Nat} {W G E : Nat → Nat} {wr w' : World} (h : PS w0 k gi go W m G wr) (hK : KH w' k gi go W l E) (hO : Own gi wr w') : PS w0 k gi go W l E w' :=
  ⟨hK, h.o.trans (hO.below (by have := h.n; omega) h.o.size), h.v.own hO h.h.hi.1.1 h.h.hi.1.2, hO.blk h.r (by have := h.n; omega), h.n⟩
theorem four_bytes {w : World} {l b0 b1 b2 b3 : Nat} (h0 : numB l 4 0 = b0) (h1 : numB l 4 1 = b1) (h2 : numB l 4 2 = b2) (h3 : numB l 4 3 = b3) : Bytes (w.alloc (.cells #[.int .u8 (b0 : Nat), .int .u8 (b1 : Nat), .int .u8 (b2 : Nat), .int .u8 (b3 : Nat)] 5)) (some ⟨w.heap.size, 0, none⟩) 4 (numB l 4) := fun k hk => by
  rcases (by omega : k = 0 ∨ k = 1 ∨ k = 2 ∨ k = 3) with rfl | rfl | rfl | rfl
  · exact ⟨numB_lt _ _ _, w.heap.size, 0, rfl, by rw [h0]; exact World.cell?_alloc_mark w #[.int .u8 (b0 : Int), .int .u8 (b1 : Int), .int .u8 (b2 : Int), .int .u8 (b3 : Int)] 5 (0, 0) 0⟩
  · exact ⟨numB_lt _ _ _, w.heap.size, 0, rfl, by rw [h1]; exact World.cell?_alloc_mark w #[.int .u8 (b0 : Int), .int .u8 (b1 : Int), .int .u8 (b2 : Int), .int .u8 (b3 : Int)] 5 (0, 0) 1⟩
  · exact ⟨numB_lt _ _ _, w.heap.size, 0, rfl, by rw [h2]; exact World.cell?_alloc_mark w #[.int .u8 (b0 : Int), .int .u8 (b1 : Int), .int .u8 (b2 : Int), .int .u8 (b3 : Int)] 5 (0, 0) 2⟩
  · exact ⟨numB_lt _ _ _, w.heap.size, 0, rfl, by rw [h3]; exact World.cell?_alloc_mark w #[.int .u8 (b0 : Int), .int .u8 (b1 : Int), .int .u8 (b2 : Int), .int .u8 (b3 : Int)] 5 (0, 0) 3⟩
set_option maxRecDepth 100000 in
set_option maxHeartbeats 4000000 in
theorem parts_any (oa : Option Addr) (n cn : Nat) (K : Nat → Nat) (op : Option Addr) (q cq : Nat) (L : Nat → Nat) (G : Nat → Nat → Nat) (w : World) (hb : Bytes w oa n K) (hnc : n ≤ cn) (hno : oa = none → n = 0) (hn : n < 800000000000)
    (hL : LBs w op q L G) (hl4 : ∀ i, i < q → L i < 4294967296) (hq : q < 4294967296) (hj : jlen L q < 700000000000) (hg : GV w) :
    Calls Tryd.prog 23 #[.slice oa n cn, .slice op q cq] w fun e w' => e = .returned (.agg (rowC 32 (hmN n K (jlen L q) (jfun L G q))).toArray) ∧ Below w.heap.size w w' := by
  have hz := zero32_run
  obtain ⟨wa, hwa⟩ : ∃ q, w.alloc (.cells zero32 27) = q := ⟨_, rfl⟩
  obtain ⟨W, hW⟩ : ∃ D, whK n K = D := ⟨_, rfl⟩
  obtain ⟨M, hM⟩ : ∃ D, hmK W (jlen L q) (jfun L G q) = D := ⟨_, rfl⟩
  obtain ⟨CM, hCM⟩ : ∃ C, (rowC 32 M).toArray = C := ⟨_, rfl⟩
  have H1 : Hid (RB 27 32 w.heap.size (fun _ => 0) wa ∧ Below w.heap.size w wa ∧ GV wa ∧ Bytes wa oa n K ∧ w.heap.size < wa.heap.size) := Lib.hid (by
    have hba : Below w.heap.size w wa := by rw [← hwa]; exact (Below.refl _ _).alloc (Nat.le_refl _) _
    exact ⟨by rw [← hwa]; exact Blk.new w _ _, hba, hg.later hba, hb.later hba, by rw [← hwa]; simp⟩)
  have HN : Hid (n ≤ cn ∧ n < 800000000000 ∧ q < 4294967296 ∧ jlen L q < 700000000000) := Lib.hid ⟨hnc, hn, hq, hj⟩
  have HNO := Lib.hid hno
  have HL := Lib.hid hL
  have HL4 := Lib.hid hl4
  have HS1 : Hid (∀ k gi go w', KH w' k gi go W (jlen L q) (jfun L G q) → GV w' → Calls Tryd.prog 20 #[.pointer (some ⟨k, 0, none⟩)] w' fun e w'' => e = .returned (.agg CM) ∧ Below w'.heap.size w' w'') := Lib.hid fun k gi go w' h h' => by
    rw [← hCM, ← hM]; exact ksum_any k gi go _ W _ w' h (by omega) h'
  have HJ : Hid ((Tryd.prog.info? 27).map (·.size) = some CM.size) := Lib.hid (hCM ▸ info27 _)
  have HJ1 : Hid (CM.all (·.oneCell') = true) := Lib.hid (hCM ▸ one32 _)
  have HCM := Lib.hid hCM
  have HW := Lib.hid hW
  unfold hmN
  rw [hW, hM, hCM]
  clear hb hnc hn hno hg hW hM hCM hL hl4 hj hq
  go_enter Tryd.func23, Tryd.ntmps23
  go_wp2_with fail
  clear hwa hz
  refine (hmnew_any oa n cn K _ H1.out.2.2.2.1 HN.out.1 HN.out.2.1 HNO.out H1.out.2.2.1).mono ?_
  rintro e w1 ⟨k, gi, go, rfl, hK, hb1, hk1, hk2, hk3⟩
  have H2 : Hid (PS w k gi go W 0 (fun _ => 0) w1) := Lib.hid (by
    obtain ⟨a1, a2, a3, a4, a6⟩ := H1.out
    exact ⟨HW.out ▸ hK _, a2.trans (hb1.mono a2.size), a3.later hb1, Blk.below a1 hb1 a6, by omega⟩)
  clear hK hb1 hk1 hk2 hk3 H1
  go_wp2_with fail
  go_loopw [13] (fun v wr => ∃ i : Nat, i ≤ q ∧ v = .int .i64 (i : Int) ∧ PS w k gi go W (jlen L i) (jfun L G i) wr) (fun v _ => q - (intOf v).toNat)
  case atStart => exact ⟨0, Nat.zero_le _, rfl, H2.out⟩
  case round =>
    clear H2
    obtain ⟨i, hi, rfl, hX⟩ := hrel
    have HX := Lib.hid hX
    clear hX
    by_cases hli : i < q
    · have i0 : (0 : Int) ≤ (i : Int) := by omega
      have i1 : (i : Int) < (q : Int) := by omega
      have hjm : jlen L (i + 1) ≤ jlen L q := jlen_mono L hli
      have hjq := HN.out.2.2.2
      have HQ : Hid (i + 1 ≤ q ∧ q < 4294967296) := Lib.hid ⟨hli, HN.out.2.2.1⟩
      have iw : (i : Int) + 1 ≤ 9223372036854775807 := by have := HQ.out; omega
      obtain ⟨lb, lo, od, cpi, hop, hcell, hle, hby, hno, hcm⟩ := HL.out i hli
      have hl4 := HL4.out i hli
      have hlbl : lb < w.heap.size := by
        rcases Nat.lt_or_ge lb w.heap.size with h' | h'
        · exact h'
        · simp [World.cell?, Array.getElem?_eq_none h'] at hcell
      have hjs : jlen L (i + 1) = jlen L i + 4 + L i := rfl
      have hfs : jfun L G (i + 1) = catF (jlen L i + 4) (catF (jlen L i) (jfun L G i) (numB (L i) 4)) (G i) := rfl
      obtain ⟨l, hl⟩ : ∃ l, L i = l := ⟨_, rfl⟩
      obtain ⟨Gi, hGi⟩ : ∃ l, G i = l := ⟨_, rfl⟩
      obtain ⟨jm, hjmE⟩ : ∃ l, jlen L i = l := ⟨_, rfl⟩
      obtain ⟨jf, hjf⟩ : ∃ l, jfun L G i = l := ⟨_, rfl⟩
      have HX2 : Hid (PS w k gi go W jm jf wr) := Lib.hid (hjmE ▸ hjf ▸ HX.out)
      rw [hl, hjmE, hGi, hjf] at hfs
      rw [hl, hjmE] at hjs
      rw [hl] at hcell hle hby hno hl4
      rw [hGi] at hby
      have HBY : Hid (∀ w', Below w.heap.size w w' → Bytes w' od l Gi) := Lib.hid fun w' h k hk => by
        obtain ⟨b1, b, off, b2, b3⟩ := hby k hk
        have hbl : b < w.heap.size := by
          rcases Nat.lt_or_ge b w.heap.size with h' | h'
          · exact h'
          · simp [World.cell?, Array.getElem?_eq_none h'] at b3
        exact ⟨b1, b, off, b2, cell_belowB h hbl b3⟩
      have HLT : Hid (∀ a, od = some a → 0 < l → a.block < w.heap.size) := Lib.hid hby.lt
      have HC : Hid (l ≤ cpi ∧ jm + 4 + l < 700000000000) := Lib.hid ⟨hle, by omega⟩
      have HJS := Lib.hid hjs
      have HFS := Lib.hid hfs
      have hc1 : wr.cell? ⟨lb, lo + i, none⟩ = some (.slice od l cpi) := cell_belowB HX.out.o hlbl hcell
      subst hop
      obtain ⟨b0, e0⟩ : ∃ x, numB l 4 0 = x := ⟨_, rfl⟩
      obtain ⟨b1, e1⟩ : ∃ x, numB l 4 1 = x := ⟨_, rfl⟩
      obtain ⟨b2, e2⟩ : ∃ x, numB l 4 2 = x := ⟨_, rfl⟩
      obtain ⟨b3, e3⟩ : ∃ x, numB l 4 3 = x := ⟨_, rfl⟩
      have hl0 : (l : Int) < 4294967296 := by omega
      have lw : (l : Int) % 4294967296 = (l : Int) := by omega
      have lw2 : IntKind.u32.wrap (l : Int) = (l : Int) := by simp [IntKind.wrap, IntKind.bits, IntKind.signed]; omega
      have v0 := num4 l 0 16777216 (by decide) (by decide)
      have v1 := num4 l 1 65536 (by decide) (by decide)
      have v2 := num4 l 2 256 (by decide) (by decide)
      have v3 := num4 l 3 1 (by decide) (by decide)
      rw [e0] at v0
      rw [e1] at v1
      rw [e2] at v2
      rw [e3] at v3
      rw [show (((1 : Nat) : Int)) = 1 from rfl, Int.ediv_one] at v3
      rw [show (((16777216 : Nat) : Int)) = 16777216 from rfl] at v0
      rw [show (((65536 : Nat) : Int)) = 65536 from rfl] at v1
      rw [show (((256 : Nat) : Int)) = 256 from rfl] at v2
      have v4 : (l : Int) / 16777216 = (b0 : Int) := by rw [← v0]; omega
      have v5 : (b0 : Int) % 256 = (b0 : Int) := by omega
      have HF4 : Hid (∀ w', Bytes (World.alloc w' (.cells #[.int .u8 (b0 : Nat), .int .u8 (b1 : Nat), .int .u8 (b2 : Nat), .int .u8 (b3 : Nat)] 5)) (some ⟨w'.heap.size, 0, none⟩) 4 (numB l 4)) := Lib.hid fun w' => four_bytes e0 e1 e2 e3
      clear hcell hle hby hno hcm hlbl hl hGi hjmE hjf HX e0 e1 e2 e3 hjs hfs hl4 hjm hjq hi hli
      go_wp2_with fail
      clear v0 v1 v2 v3 v4 v5 lw lw2 hc1 hl0
      have hal : Below wr.heap.size wr (wr.alloc (.cells #[.int .u8 (b0 : Nat), .int .u8 (b1 : Nat), .int .u8 (b2 : Nat), .int .u8 (b3 : Nat)] 5)) := (Below.refl _ _).alloc (Nat.le_refl _) _
      have HA := Lib.hid (HX2.out.later hal)
      refine (kwrite_any k gi go jm 4 4 (some ⟨wr.heap.size, 0, none⟩) W jf (numB l 4) _ HA.out.h (HF4.out wr) (Nat.le_refl _) (fun a ha _ => by cases ha; have := HX2.out.h.hi.lt; show wr.heap.size ≠ gi; omega) (by have := HC.out; omega) HA.out.v).mono ?_
      rintro e w5 ⟨rfl, hK, hO⟩
      have H5 := Lib.hid (HA.out.wrote hK hO)
      clear hK hO hal HA HX2 HF4
      go_wp2_with fail
      refine (kwrite_any k gi go (jm + 4) l cpi od W _ Gi _ H5.out.h (HBY.out _ H5.out.o) HC.out.1 (fun a ha hm => by have := HLT.out a ha hm; have := H5.out.n; omega) (by have := HC.out; omega) H5.out.v).mono ?_
      rintro e w6 ⟨rfl, hK, hO⟩
      have H6 := Lib.hid (H5.out.wrote hK hO)
      clear hK hO H5
      go_wp2_with fail
      go_roundw
      case rel => exact ⟨i + 1, HQ.out.1, by go_num, by rw [HJS.out, HFS.out]; exact H6.out⟩
      case measure => have := HQ.out; simp [intOf] <;> omega
    · obtain rfl : i = q := by omega
      clear hli hi
      go_wp2_with fail
      refine (HS1.out _ _ _ _ HX.out.h HX.out.v).mono ?_
      rintro e w5 ⟨rfl, hb5⟩
      have H5 := Lib.hid (HX.out.later hb5)
      clear hb5 HX
      have HX : Hid (Blk (w5.setCells w.heap.size 0 CM.toList) w.heap.size CM 27 ∧ w5.there w.heap.size 0 CM.size) := Lib.hid (by
        rw [← HCM.out]; exact ⟨Blk.setCells H5.out.r (rowC 32 M) (by rw [rowC_size, rowC_len]), Blk.there H5.out.r (by rw [rowC_size, rowC_size]; exact Nat.le_refl _)⟩)
      have HO : Hid (Below w.heap.size w (w5.setCells w.heap.size 0 CM.toList)) := Lib.hid (H5.out.o.trans ((Own.setCells _ 0 w5).below (Nat.le_refl _) H5.out.o.size))
      go_wp2_with (first | (refine wpList_store_mid rfl 27 (.tmp 4) (.tmp 39) rfl w.heap.size 0 CM rfl rfl HX.out.2 HJ.out HJ1.out ?_))
      refine bodyPost_ret (v := .agg CM) ?_ rfl ⟨rfl, HO.out⟩
      exact results_cell_row Tryd.results23 _ _ w.heap.size 27 CM (0, 0) _ rfl HX.out.1 Tryd.underlying27 rfl HJ.out
end Go.Proofs.YtbblibddikdakaaDoor
