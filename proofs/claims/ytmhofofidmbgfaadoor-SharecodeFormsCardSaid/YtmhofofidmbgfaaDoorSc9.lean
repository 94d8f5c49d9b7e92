/- Parts' texts come back; what the law is sure of. -/
import Derived.Test.YtmhofofidmbgfaaDoorSc8
import Derived.Test.YtmhofofidmbgfaaDoorNum04
import Derived.Test.YtmhofofidmbgfaaDoorFrz
namespace Go.Proofs.YtmhofofidmbgfaaDoor
set_option linter.unusedVariables false
set_option linter.unusedSimpArgs false
open Go.RowKit

theorem txt_size (ix gen n : Nat) (f : Nat → Nat) : (txtS ix gen n f).size = 2 * (8 + n) := strF_size _ _
theorem txt_byte {ix gen n : Nat} {f : Nat → Nat} (hix : ix < 256) (hn : n ≤ 64) (hf : ∀ i, i < n → f i < 256) {j : Nat} (hj : j < 2 * (8 + n)) : byteF (txtS ix gen n f) j = hexF (encF ix gen n f) j :=
  byteF_strF (hexF_lt (encF_lt hix (by omega) hf)) j hj
theorem txt_dig {ix gen n : Nat} {f : Nat → Nat} (hix : ix < 256) (hn : n ≤ 64) (hf : ∀ i, i < n → f i < 256) {i : Nat} (hi : i < 8 + n) :
    digN (byteF (txtS ix gen n f) (2 * i)) = encF ix gen n f i / 16 ∧ digN (byteF (txtS ix gen n f) (2 * i + 1)) = encF ix gen n f i % 16 := by
  have he := encF_lt (gen := gen) hix (by omega) hf i hi
  rw [txt_byte hix hn hf (by omega), txt_byte hix hn hf (by omega)]
  unfold hexF
  rw [if_pos (by omega), if_neg (by omega), show 2 * i / 2 = i by omega, show (2 * i + 1) / 2 = i by omega]
  exact ⟨digN_hexD _ (by omega), digN_hexD _ (by omega)⟩
theorem txt_unh {ix gen n : Nat} {f : Nat → Nat} (hix : ix < 256) (hn : n ≤ 64) (hf : ∀ i, i < n → f i < 256) {i : Nat} (hi : i < 8 + n) : unhF (txtS ix gen n f) i = encF ix gen n f i := by
  unfold unhF
  obtain ⟨h1, h2⟩ := txt_dig (gen := gen) hix hn hf hi
  rw [h1, h2]; omega
theorem txt_half (ix gen n : Nat) (f : Nat → Nat) : (txtS ix gen n f).size / 2 = 8 + n := by rw [txt_size]; omega
theorem IsEnc.congr {n : Nat} {f g : Nat → Nat} (h : IsEnc n f) (he : ∀ i, i < n → g i = f i) : IsEnc n g :=
  have lo := h.lo
  ⟨h.lo, h.hi, by rw [he 0 (by omega)]; exact h.s, by rw [he 1 (by omega)]; exact h.h, by rw [he 6 (by omega)]; exact h.ix, by rw [he 7 (by omega)]; exact h.len⟩
theorem genOf_congr {f g : Nat → Nat} (he : ∀ i, i < 6 → g i = f i) : genOf g = genOf f := by
  unfold genOf; rw [he 2 (by omega), he 3 (by omega), he 4 (by omega), he 5 (by omega)]
theorem txt_good {ix gen n : Nat} {f : Nat → Nat} (hm : MayS ix n) (hix : ix < 256) (hf : ∀ i, i < n → f i < 256) : PGood (txtS ix gen n f) := by
  have hn := hm.2.2
  refine ⟨⟨by rw [txt_size]; omega, by rw [txt_size]; omega, fun i hi => ?_⟩, ?_⟩
  · rw [txt_half] at hi
    obtain ⟨h1, h2⟩ := txt_dig (gen := gen) hix hn hf hi
    have := encF_lt (gen := gen) hix (by omega) hf i hi
    rw [h1, h2]; omega
  · rw [txt_half]
    exact (isEnc_enc hm).congr fun i hi => txt_unh hix hn hf hi
/-- Parse of a part's text. -/
theorem parse_txt {ix gen n : Nat} {f : Nat → Nat} (w : World) (hm : MayS ix n) (hix : ix < 256) (hg : gen < 4294967296) (hf : ∀ i, i < n → f i < 256) :
    Calls Tryd.prog 33 #[.string (txtS ix gen n f)] w fun e w' => ∃ g c, e = .returned (.tuple #[.agg #[.int .u8 (ix : Nat), .int .u32 (gen : Nat), .slice (some ⟨g, 0, none⟩) n c], .nilIface]) ∧ w.heap.size ≤ g ∧ n ≤ c ∧ c ≤ maxLen ∧ Bytes w' (some ⟨g, 0, none⟩) n f ∧ Below w.heap.size w w' := by
  have hn := hm.2.2
  refine (parse_any _ w (by rw [txt_size]; omega)).mono ?_
  rintro e w' ⟨hb, ⟨_, g, c, he, h1, h2, h3, h4⟩ | ⟨hb2, _⟩⟩
  · rw [txt_half, show 8 + n - 8 = n by omega] at h2 h4
    rw [txt_half, show 8 + n - 8 = n by omega, txt_unh hix hn hf (by omega), encF_6, genOf_congr (fun i hi => txt_unh (gen := gen) hix hn hf (show i < 8 + n by omega)), genOf_enc hg] at he
    refine ⟨g, c, he, h1, h2, h3, fun k hk => ?_, hb⟩
    have := h4 k hk
    simp only [txt_unh hix hn hf (show 8 + k < 8 + n by omega), encF_hi] at this
    exact this
  · exact absurd (txt_good hm hix hf) hb2

theorem txt_known : txtS 1 7 1 (fun _ => 6) = ⟨#[55, 51, 54, 56, 48, 48, 48, 48, 48, 48, 48, 55, 48, 49, 48, 49, 48, 54]⟩ := by kernel_rfl
theorem str_six : strF 1 (fun _ => 6) = ⟨#[6]⟩ := by kernel_rfl

set_option maxHeartbeats 4000000 in
set_option maxRecDepth 100000 in
theorem sure04 (w : World) (hg : Handle w) : Calls Tryd.prog 27 #[] w fun e w' => e = .returned (.bool true) ∧ Below w.heap.size w w' := by
  have hms : MayS 1 1 := ⟨by decide, by decide, by decide⟩
  obtain ⟨w0, hw0⟩ : ∃ y, w.alloc (.cells #[.int .u8 6] 5) = y := ⟨_, rfl⟩
  have hb0 : Below w.heap.size w w0 := by rw [← hw0]; exact (Below.refl _ _).alloc (Nat.le_refl _) _
  have hB6 : Bytes w0 (some ⟨w.heap.size, 0, none⟩) 1 (fun _ => 6) := by rw [← hw0]; exact one_byte (x := 6) (by decide)
  have HG := Lib.hid hg
  have HB0 := Lib.hid hb0
  have ht := text_any 1 7 1 1 (some ⟨w.heap.size, 0, none⟩) (fun _ => 6) w0 hms (by decide) (by decide) hB6
  rw [txt_known] at ht
  have HT := Lib.hid ht
  have HP : Hid (∀ w', Calls Tryd.prog 33 #[.string ⟨#[55, 51, 54, 56, 48, 48, 48, 48, 48, 48, 48, 55, 48, 49, 48, 49, 48, 54]⟩] w' fun e w2 => ∃ g c, e = .returned (.tuple #[.agg #[.int .u8 1, .int .u32 7, .slice (some ⟨g, 0, none⟩) 1 c], .nilIface]) ∧ Bytes w2 (some ⟨g, 0, none⟩) 1 (fun _ => 6) ∧ Below w'.heap.size w' w2) := Lib.hid fun w' => by
    have h := parse_txt (ix := 1) (gen := 7) (n := 1) (f := fun _ => 6) w' hms (by decide) (by decide) (fun _ _ => by decide)
    rw [txt_known] at h
    refine h.mono ?_
    rintro e w2 ⟨g, c, rfl, _, _, _, h4, h5⟩
    exact ⟨g, c, rfl, h4, h5⟩
  clear hg hb0 hB6 ht
  go_enter Tryd.func27, Tryd.ntmps27
  go_wp2_with fail
  refine HT.out.mono ?_
  rintro e w1 ⟨rfl, hb1⟩
  have HB1 := Lib.hid (HB0.out.trans (hb1.mono HB0.out.size))
  clear hb1 hw0
  go_wp2_with fail
  refine (HP.out w1).mono ?_
  rintro e w2 ⟨g, c, rfl, hB2, hb2⟩
  have HB2 := Lib.hid (HB1.out.trans (hb2.mono HB1.out.size))
  have HY2 := Lib.hid hB2
  obtain ⟨wA, hwA⟩ : ∃ y, w2.alloc (.cells #[.int .u8 1, .int .u32 7, .slice (some ⟨g, 0, none⟩) 1 c] 52) = y := ⟨_, rfl⟩
  obtain ⟨wB, hwB⟩ : ∃ y, wA.alloc (.cells #[.int .u8 115, .int .u8 104] 5) = y := ⟨_, rfl⟩
  have HA : Hid (Below w2.heap.size w2 wA ∧ Blk wA w2.heap.size #[.int .u8 1, .int .u32 7, .slice (some ⟨g, 0, none⟩) 1 c] 52 ∧ wA.heap.size = w2.heap.size + 1) := Lib.hid ⟨by rw [← hwA]; exact (Below.refl _ _).alloc (Nat.le_refl _) _, by rw [← hwA]; exact Blk.new _ _ _, by rw [← hwA]; simp⟩
  have HBB : Hid (Below wA.heap.size wA wB ∧ Blk wB wA.heap.size #[.int .u8 115, .int .u8 104] 5 ∧ Bytes wB (some ⟨wA.heap.size, 0, none⟩) 2 (two 115 104)) := Lib.hid ⟨by rw [← hwB]; exact (Below.refl _ _).alloc (Nat.le_refl _) _, by rw [← hwB]; exact Blk.new _ _ _, by rw [← hwB]; exact ob2 (x := 115) (y := 104) (by decide) (by decide)⟩
  have hAs : w2.heap.size + 1 = wA.heap.size := HA.out.2.2.symm
  clear hb2 hB2
  go_wp2_with (first
    | (refine wpList_convB rfl (.tmp 19) rfl wA.heap.size 2 2 2 rfl (Shp.blk HBB.out.2.1) ?_
       refine Hid.out ?_))
  refine Lib.hid ?_
  have hO3 : Own wA.heap.size wB (wB.freeze ⟨wA.heap.size, 2, none⟩ 1) := Own.frz _ _ _ _
  have hB3 := HBB.out.2.2.frz ⟨wA.heap.size, 2, none⟩ 1
  obtain ⟨w3, hw3⟩ : ∃ y, wB.freeze ⟨wA.heap.size, 2, none⟩ 1 = y := ⟨_, rfl⟩
  rw [hw3] at hO3 hB3 ⊢
  have HA3 : Hid (Below wA.heap.size wA w3) := Lib.hid (HBB.out.1.trans (hO3.below (Nat.le_refl _) HBB.out.1.size))
  have HD := Lib.hid (dec_bad 2 2 (some ⟨wA.heap.size, 0, none⟩) (two 115 104) w3 (by decide) hB3 (fun h => by have := h.lo; omega))
  unfold zSh eN at HD
  clear hwA hwB hw3 hO3 hB3
  go_wp2_with fail
  refine HD.out.mono ?_
  rintro e w4 ⟨rfl, hb4⟩
  have HA4 : Hid (Below wA.heap.size wA w4) := Lib.hid (HA3.out.trans (hb4.mono HA3.out.size))
  have hS4 : Blk w4 w2.heap.size #[.int .u8 1, .int .u32 7, .slice (some ⟨g, 0, none⟩) 1 c] 52 := Blk.below HA.out.2.1 HA4.out (Blk.lt HA.out.2.1)
  have HS4 := Lib.hid hS4
  have HY4 : Hid (Bytes w4 (some ⟨g, 0, none⟩) 1 (fun _ => 6)) := Lib.hid ((HY2.out.later HA.out.1).later HA4.out)
  obtain ⟨w5, hw5⟩ : ∃ y, w4.alloc (.cells #[.int .u8 0, .int .u32 0, .slice none 0 0] 52) = y := ⟨_, rfl⟩
  have hb5 : Below w4.heap.size w4 w5 := by rw [← hw5]; exact (Below.refl _ _).alloc (Nat.le_refl _) _
  have hS5 := Blk.below hS4 hb5 (Blk.lt hS4)
  have c1 : w5.cell? ⟨w2.heap.size, 1, none⟩ = some (.int .u32 7) := by rw [Blk.cell hS5]; rfl
  have c2 : w5.cell? ⟨w2.heap.size, 2, none⟩ = some (.slice (some ⟨g, 0, none⟩) 1 c) := by rw [Blk.cell hS5]; rfl
  have hcv : (convert 22 9 (.slice (some ⟨g, 0, none⟩) 1 c)).run Tryd.prog w5 = .ok (.string ⟨#[6]⟩) w5 := by
    rw [← str_six]; exact (HY4.out.later hb5).conv
  have HB5 : Hid (Below w.heap.size w w5) := Lib.hid (HB2.out.trans (((HA.out.1.trans (HA4.out.mono HA.out.1.size)).trans (hb5.mono (by have := HA.out.1.size; have := HA4.out.size; omega))).mono HB2.out.size))
  have HN := Lib.hid (num_err04 4 w5 (HG.out.below HB5.out HG.out.2))
  clear hb4 hS4 hb5 hS5 HD
  subst hw5
  go_wp2_with (first
    | (refine wpList_valueG rfl (exec_convO (x := .tmp 41) rfl rfl hcv) ?_)
    | (go_at_call 35; refine HN.out.mono ?_; refine Hid.out ?_))
  refine Lib.hid ?_
  rintro e w6 ⟨rfl, hb6⟩
  have HB6 := Lib.hid (HB5.out.trans (hb6.mono HB5.out.size))
  clear hb6
  go_wp2_with fail
  go_ret
  exact ⟨rfl, HB6.out⟩
end Go.Proofs.YtmhofofidmbgfaaDoor
