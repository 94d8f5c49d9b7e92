/- AES: a byte times 2; a block with a round's words. -/
import Derived.Test.YtncfocjmdecapaaGreatDoorZB0
import Derived.Test.YtncfocjmdecapaaGreatDoorZS1
import Derived.Test.YtncfocjmdecapaaGreatDoorZS2
import Derived.Test.YtncfocjmdecapaaGreatDoorZSh4
import Derived.Test.YtncfocjmdecapaaGreatDoorZA0
import Derived.Test.YtncfocjmdecapaaGreatDoorZS5
import Derived.Test.YtncfocjmdecapaaGreatDoorZSh7
import Derived.Test.YtncfocjmdecapaaGreatDoorZS8
import Derived.Test.YtncfocjmdecapaaGreatDoorZHm2
import Derived.Test.YtncfocjmdecapaaGreatDoorZAs
import Derived.Test.YtncfocjmdecapaaGreatDoorZR0
import Derived.Test.YtncfocjmdecapaaGreatDoorZF1
import Derived.Test.YtncfocjmdecapaaGreatDoorZF2
import Derived.Test.YtncfocjmdecapaaGreatDoorZB16
namespace Go.Proofs.YtncfocjmdecapaaGreatDoor
set_option linter.unusedVariables false
set_option linter.unusedSimpArgs false
open Go.RowKit
set_option maxRecDepth 100000 in
set_option maxHeartbeats 1000000 in
theorem dbl_any (a : Nat) (w : World) (ha : a < 256) :
    Calls Tryz.prog 93 #[.int .u8 (a : Nat)] w fun e w' => e = .returned (.int .u8 (dbl a : Nat)) ∧ Below w.heap.size w w' := by
  have h1 : a / 128 < 2 := by omega
  have e1 : IntKind.u8.wrap ((a : Int) * 2) = ((a * 2 % 256 : Nat) : Int) := by simp [IntKind.wrap, IntKind.bits, IntKind.signed]
  have e2 : IntKind.u8.wrap (27 * ((a : Int) / 128)) = ((27 * (a / 128) : Nat) : Int) := by simp [IntKind.wrap, IntKind.bits, IntKind.signed]; omega
  have e2' : (27 : Int) * ((a : Int) / 128) = ((27 * (a / 128) : Nat) : Int) := by omega
  have e3 : bits .xor .u8 ((a * 2 % 256 : Nat) : Int) ((27 * (a / 128) : Nat) : Int) = ((dbl a : Nat) : Int) := u8_xor_nat _ _ (Nat.mod_lt _ (by decide)) (by omega)
  have e4 : ((a * 2 % 256 : Nat) : Int) = (a : Int) * 2 % 256 := by omega
  rw [e4] at e1 e3
  rw [← e2'] at e2 e3
  clear e2' e4
  generalize dbl a = d at *
  go_enter Tryz.func93, Tryz.ntmps93
  go_wp2_with fail
  go_ret
  exact ⟨rfl, Below.refl _ _⟩

/-- A key, as memory has it: its words, and where its table lies. -/
def keyC (W : Nat → Nat) (bx : Nat) : List Value := ((List.range 60).map fun i => Value.int .u32 (W i : Nat)) ++ [.pointer (some ⟨bx, 0, none⟩)]
def KeyB (w : World) (kb : Nat) (W : Nat → Nat) (bx : Nat) : Prop := Blk w kb (keyC W bx).toArray 155
theorem KeyB.word {w : World} {kb bx : Nat} {W : Nat → Nat} (h : KeyB w kb W bx) {i : Nat} (hi : i < 60) : w.cell? ⟨kb, i, none⟩ = some (.int .u32 (W i : Nat)) := by
  rw [Blk.cell h, List.getElem?_toArray]; unfold keyC
  rw [List.getElem?_append_left (by simpa using hi), List.getElem?_map, List.getElem?_range hi]; rfl
theorem KeyB.box {w : World} {kb bx : Nat} {W : Nat → Nat} (h : KeyB w kb W bx) : w.cell? ⟨kb, 60, none⟩ = some (.pointer (some ⟨bx, 0, none⟩)) := by
  rw [Blk.cell h, List.getElem?_toArray]; unfold keyC
  rw [List.getElem?_append_right (by simp)]; simp
theorem KeyB.set {w : World} {kb bx : Nat} {W : Nat → Nat} (h : KeyB w kb W bx) {i x : Nat} (hi : i < 60) : KeyB (w.setCell ⟨kb, i, none⟩ (.int .u32 (x : Nat))) kb (upd W i x) bx := by
  have := Blk.set h i (.int .u32 (x : Nat))
  rw [List.setIfInBounds_toArray] at this
  have e : (keyC W bx).set i (.int .u32 (x : Nat)) = keyC (upd W i x) bx := by
    unfold keyC
    rw [List.set_append_left _ _ (by simpa using hi)]
    congr 1
    refine List.ext_getElem? fun k => ?_
    rw [List.getElem?_set, List.getElem?_map, List.getElem?_map]
    by_cases hk : i = k
    · subst hk; simp [hi, upd]
    · rw [if_neg hk]
      by_cases hk2 : k < 60
      · rw [List.getElem?_range hk2]; simp [upd, Ne.symm hk]
      · rw [List.getElem?_eq_none (by simpa using hk2)]; rfl
  rw [e] at this; exact this

/-- Behind c columns. -/
def AK (w0 : World) (W : Nat → Nat) (r : Nat) (f : Nat → Nat) (c : Nat) (wr : World) : Prop := B16 wr w0.heap.size (fun i => if i / 4 < c then addK W r f i else f i) ∧ B16 wr (w0.heap.size + 1) (fun _ => 0) ∧ Below w0.heap.size w0 wr
set_option maxRecDepth 100000 in
set_option maxHeartbeats 4000000 in
theorem added_any (kb bx : Nat) (W : Nat → Nat) (r : Nat) (f : Nat → Nat) (w : World) (hK : KeyB w kb W bx) (hr : r ≤ 14) (hf : ∀ i, i < 16 → f i < 256) :
    Calls Tryz.prog 78 #[.pointer (some ⟨kb, 0, none⟩), .agg (rowC 16 f).toArray, .int .i64 (r : Int)] w fun e w' => e = .returned (.agg (rowC 16 (addK W r f)).toArray) ∧ Below w.heap.size w w' := by
  have hz := zero16_run
  have HF := Lib.hid hf
  obtain ⟨C, hC⟩ : ∃ C, (rowC 16 f).toArray = C := ⟨_, rfl⟩
  have HT : Hid (AK w W r f 0 ((w.alloc (.cells C 82)).alloc (.cells zero16 82))) := Lib.hid (by
    rw [← hC]
    refine ⟨?_, ?_, ((Below.refl _ _).alloc (Nat.le_refl _) _).alloc (by simp) _⟩
    · exact B16.congr ((Blk.new w _ 82).alloc _) fun i _ => (if_neg (Nat.not_lt_zero _)).symm
    · have := Blk.new (w.alloc (.cells (rowC 16 f).toArray 82)) zero16 82
      show Blk _ _ zero16 _; simpa using this)
  have HK := Lib.hid hK
  have r0 : (0 : Int) ≤ (r : Int) := by omega
  have r1 : (r : Int) ≤ 14 := by omega
  rw [hC]
  clear hf hC hK
  go_enter Tryz.func78, Tryz.ntmps78
  go_wp2_with fail
  clear hz
  go_loopw [9] (fun i wr => ∃ c : Nat, c ≤ 4 ∧ i = .int .i64 (c : Int) ∧ AK w W r f c wr) (fun i _ => 4 - (intOf i).toNat)
  case atStart => exact ⟨0, Nat.zero_le _, rfl, HT.out⟩
  case round =>
    clear HT
    obtain ⟨c, hc, rfl, hX, hY, hO⟩ := hrel
    by_cases hlt : c < 4
    · have hkb : kb < w.heap.size := Blk.lt HK.out
      have cw : wr.cell? ⟨kb, 4 * r + c, none⟩ = some (.int .u32 (W (4 * r + c) : Nat)) := cell_below hO (HK.out.word (by omega))
      have cf : ∀ k, k < 4 → wr.cell? ⟨w.heap.size, 4 * c + k, none⟩ = some (.int .u8 (f (4 * c + k) : Nat)) := fun k hk => by
        have := hX.cell (show 4 * c + k < 16 by omega); rw [if_neg (by omega)] at this; exact this
      have cz : ∀ k, wr.frozen? ⟨w.heap.size, 4 * c + k, none⟩ = false := fun k => Blk.free hX _
      have hv : ∀ k d, k < 4 → 256 ^ (3 - k) = d → (W (4 * r + c) : Int) / (d : Nat) % 256 = ((numB (W (4 * r + c)) 4 k : Nat) : Int) := fun k d hk hd => num4 _ k d hk hd
      have hxr : ∀ k, k < 4 → bits .xor .u8 (f (4 * c + k) : Int) (numB (W (4 * r + c)) 4 k : Nat) = ((f (4 * c + k) ^^^ numB (W (4 * r + c)) 4 k : Nat) : Int) := fun k hk => u8_xor_nat _ _ (HF.out _ (by omega)) (numB_lt _ _ _)
      have hak : ∀ k, k < 4 → f (4 * c + k) ^^^ numB (W (4 * r + c)) 4 k = addK W r f (4 * c + k) := fun k hk => by
        unfold addK; rw [show (4 * c + k) / 4 = c by omega, show (4 * c + k) % 4 = k by omega]
      have HN := Lib.hid (show AK w W r f (c + 1) ((((wr.setCell ⟨w.heap.size, 4 * c, none⟩ (.int .u8 (addK W r f (4 * c + 0) : Nat))).setCell ⟨w.heap.size, 4 * c + 1, none⟩ (.int .u8 (addK W r f (4 * c + 1) : Nat))).setCell ⟨w.heap.size, 4 * c + 2, none⟩ (.int .u8 (addK W r f (4 * c + 2) : Nat))).setCell ⟨w.heap.size, 4 * c + 3, none⟩ (.int .u8 (addK W r f (4 * c + 3) : Nat))) by
        refine ⟨?_, Blk.set_other (Blk.set_other (Blk.set_other (Blk.set_other hY (by simp) _) (by simp) _) (by simp) _) (by simp) _, (((hO.setCell (by simp) _).setCell (by simp) _).setCell (by simp) _).setCell (by simp) _⟩
        refine ((((hX.set (4 * c) _).set (4 * c + 1) _).set (4 * c + 2) _).set (4 * c + 3) _).congr fun i hi => ?_
        unfold upd
        by_cases e3 : i = 4 * c + 3
        · subst e3; rw [if_pos rfl, if_pos (by omega)]
        · rw [if_neg e3]
          by_cases e2 : i = 4 * c + 2
          · subst e2; rw [if_pos rfl, if_pos (by omega)]
          · rw [if_neg e2]
            by_cases e1 : i = 4 * c + 1
            · subst e1; rw [if_pos rfl, if_pos (by omega)]
            · rw [if_neg e1]
              by_cases e0 : i = 4 * c
              · subst e0; rw [if_pos rfl, if_pos (by omega)]; rfl
              · rw [if_neg e0]
                show (if i / 4 < c then addK W r f i else f i) = if i / 4 < c + 1 then addK W r f i else f i
                by_cases h5 : i / 4 < c
                · rw [if_pos h5, if_pos (by omega)]
                · rw [if_neg h5, if_neg (by omega)])
      have c0 := cf 0 (by omega)
      have c1 := cf 1 (by omega)
      have c2 := cf 2 (by omega)
      have c3 := cf 3 (by omega)
      have z0 := cz 0
      have z1 := cz 1
      have z2 := cz 2
      have z3 := cz 3
      have v0 := hv 0 16777216 (by decide) (by decide)
      have v1 := hv 1 65536 (by decide) (by decide)
      have v2 := hv 2 256 (by decide) (by decide)
      have v3 := hv 3 1 (by decide) (by decide)
      have x0 := hxr 0 (by decide)
      have x1 := hxr 1 (by decide)
      have x2 := hxr 2 (by decide)
      have x3 := hxr 3 (by decide)
      rw [hak 0 (by decide)] at x0
      rw [hak 1 (by decide)] at x1
      rw [hak 2 (by decide)] at x2
      rw [hak 3 (by decide)] at x3
      clear cf cz hv hxr hak hX hY hO
      have i0 : (0 : Int) ≤ (c : Int) := by omega
      have i1 : (c : Int) < 4 := by omega
      simp only [Nat.add_zero] at c0 z0 x0 HN
      rw [show (((1 : Nat) : Int)) = 1 from rfl, Int.ediv_one] at v3
      rw [show (((16777216 : Nat) : Int)) = 16777216 from rfl] at v0
      rw [show (((65536 : Nat) : Int)) = 65536 from rfl] at v1
      rw [show (((256 : Nat) : Int)) = 256 from rfl] at v2
      generalize addK W r f (4 * c) = a0 at *
      generalize addK W r f (4 * c + 1) = a1 at *
      generalize addK W r f (4 * c + 2) = a2 at *
      generalize addK W r f (4 * c + 3) = a3 at *
      generalize f (4 * c) = f0 at *
      generalize f (4 * c + 1) = f1 at *
      generalize f (4 * c + 2) = f2 at *
      generalize f (4 * c + 3) = f3 at *
      generalize numB (W (4 * r + c)) 4 0 = b0 at *
      generalize numB (W (4 * r + c)) 4 1 = b1 at *
      generalize numB (W (4 * r + c)) 4 2 = b2 at *
      generalize numB (W (4 * r + c)) 4 3 = b3 at *
      generalize ((W (4 * r + c) : Nat) : Int) = V at *
      go_wp2_with fail
      go_roundw
      case rel => exact ⟨c + 1, by omega, by go_num, HN.out⟩
      case measure => simp [intOf]; omega
    · obtain rfl : c = 4 := by omega
      obtain ⟨E, hE⟩ : ∃ C, (rowC 16 (addK W r f)).toArray = C := ⟨_, rfl⟩
      have HCE : Hid (∃ f, E = (rowC 16 f).toArray) := Lib.hid ⟨_, hE.symm⟩
      have HC0 : Hid (∃ f, zero16 = (rowC 16 f).toArray) := Lib.hid ⟨_, rfl⟩
      have HX5 : Hid (Blk wr w.heap.size E 82) := Lib.hid (hE ▸ (hX.congr fun i hi => if_pos (by omega)))
      have HR5 : Hid (Blk wr (w.heap.size + 1) zero16 82) := Lib.hid hY
      have HN : Hid (Blk (wr.setCells (w.heap.size + 1) 0 E.toList) (w.heap.size + 1) E 82) := Lib.hid (Blk.store16 HR5.out HCE.out HC0.out)
      have HO5 : Hid (Below w.heap.size w (wr.setCells (w.heap.size + 1) 0 E.toList)) := Lib.hid (Below.set16 (g := w.heap.size + 1) hO (by omega) hO.size _)
      have HE := Lib.hid hE
      clear hX hY hO hE hlt hc
      go_wp2_with (first
        | (refine wpList_load16 rfl (.tmp 4) rfl w.heap.size rfl E HX5.out HCE.out ?_)
        | (refine wpList_store16 rfl (.tmp 6) (.tmp 60) rfl (w.heap.size + 1) rfl E zero16 rfl HR5.out HCE.out HC0.out ?_))
      refine bodyPost_ret (v := .agg E) ?_ rfl ⟨by rw [HE.out], HO5.out⟩
      exact res16 Tryz.results78 _ _ (w.heap.size + 1) E rfl HN.out HCE.out
end Go.Proofs.YtncfocjmdecapaaGreatDoor
