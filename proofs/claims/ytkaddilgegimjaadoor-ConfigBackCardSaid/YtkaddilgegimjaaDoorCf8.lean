/- The walk of ConfigBack. -/
import Derived.Test.YtkaddilgegimjaaDoorCf4
import Derived.Test.YtkaddilgegimjaaDoorApr
namespace Go.Proofs.YtkaddilgegimjaaDoor
set_option linter.unusedVariables false
set_option linter.unusedSimpArgs false
open Go.RowKit

/-- Bytes that are a config's. -/
def DOk (n : Nat) (f : Nat → Nat) : Prop := n = 8 ∧ f 0 = 99 ∧ f 1 = 102 ∧ OkP (f 2) (f 3) ∧ gN f ≠ 0
theorem dec_n (oa : Option Addr) (n cp : Nat) (f : Nat → Nat) (w : World) (hb : Bytes w oa n f) (h : ¬ DOk n f) :
    Calls Tryd.prog 33 #[.slice oa n cp] w fun e w' => e = .returned (.tuple #[.agg #[.int .i64 0, .int .i64 0, .int .u32 0], .iface 146 (.int .i64 4)]) ∧ Below w.heap.size w w' := by
  by_cases h8 : n = 8
  · by_cases h0 : f 0 = 99
    · by_cases h1 : f 1 = 102
      · subst h8
        exact dec_no oa cp f w hb h0 h1 fun hh => h ⟨rfl, h0, h1, hh.1, by have := hh.2; omega⟩
      · exact dec_m1 oa n cp f w hb h8 h0 h1
    · exact dec_m0 oa n cp f w hb h8 h0
  · exact dec_len oa n cp f w hb h8
theorem gN_cf {k n g : Nat} (hg : g < 4294967296) : gN (cfF k n g) = g := by
  have e : gN (cfF k n g) = g / 16777216 * 16777216 + g / 65536 % 256 * 65536 + g / 256 % 256 * 256 + g % 256 := rfl
  rw [e]; omega
theorem dec_back (k n g cp : Nat) (b : Nat) (w : World) (hR : Row w b 8 (cfF k n g)) (h : OkP k n) (h0 : 0 < g) (hg : g < 4294967296) :
    Calls Tryd.prog 33 #[.slice (some ⟨b, 0, none⟩) 8 cp] w fun e w' => e = .returned (.tuple #[.agg #[.int .i64 (k : Int), .int .i64 (n : Int), .int .u32 (g : Int)], .nilIface]) ∧ Below w.heap.size w w' := by
  have hl : ∀ i, i < 8 → cfF k n g i < 256 := cfF_lt (by have := h.2.1; have := h.2.2; omega) (by have := h.2.2; omega) hg
  have hh := dec_ok (some ⟨b, 0, none⟩) cp (cfF k n g) w (hR.bytes hl) rfl rfl h (by rw [gN_cf hg]; omega)
  rw [gN_cf hg] at hh
  exact hh
theorem cf_same' {f : Nat → Nat} {G : Nat} (e : G = f 4 * 16777216 + f 5 * 65536 + f 6 * 256 + f 7) (hf : ∀ i, i < 8 → f i < 256) (h0 : f 0 = 99) (h1 : f 1 = 102) : ∀ i, i < 8 → cfF (f 2) (f 3) G i = f i := fun i hi => by
  have h4 := hf 4 (by omega)
  have h5 := hf 5 (by omega)
  have h6 := hf 6 (by omega)
  have h7 := hf 7 (by omega)
  match i, hi with
  | 0, _ => show (99 : Nat) = _; omega
  | 1, _ => show (102 : Nat) = _; omega
  | 2, _ => show f 2 = _; omega
  | 3, _ => show f 3 = _; omega
  | 4, _ => show G / 16777216 = _; omega
  | 5, _ => show G / 65536 % 256 = _; omega
  | 6, _ => show G / 256 % 256 = _; omega
  | 7, _ => show G % 256 = _; omega
theorem cf_same {f : Nat → Nat} (hf : ∀ i, i < 8 → f i < 256) (h0 : f 0 = 99) (h1 : f 1 = 102) : ∀ i, i < 8 → cfF (f 2) (f 3) (gN f) i = f i := cf_same' (by unfold gN; rfl) hf h0 h1
theorem nine_lt {f : Nat → Nat} (hf : ∀ i, i < 8 → f i < 256) : ∀ i, i < 9 → upd (catF 0 (fun _ => 0) f) 8 0 i < 256 := fun i hi => by
  unfold upd catF
  by_cases h : i = 8
  · rw [if_pos h]; decide
  · rw [if_neg h, if_neg (by omega)]; exact hf _ (by omega)
set_option maxRecDepth 100000 in
set_option maxHeartbeats 8000000 in
theorem back_nn (k n g : Int) (a b : Int) (oa : Option Addr) (nb : Nat) (cp : Nat) (f : Nat → Nat) (w : World) (hgh : Handle w) (hB : Bytes w oa nb f)
    (hgg : 0 ≤ g) (hp : ¬ (OkP k n ∧ g ≠ 0))  (hd : ¬ DOk nb f) :
    Calls Tryd.prog 7 #[.agg #[.int .i64 k, .int .i64 n, .int .u32 g], .agg #[.int .i64 a, .int .i64 b], .slice oa nb cp] w fun e w' => e = .returned (.bool true) ∧ Below w.heap.size w w' := by
  have HBy := Lib.hid hB
  have F0 : Fr (((w.alloc (.cells #[.int .i64 k, .int .i64 n, .int .u32 g] 52)).alloc (.cells #[.int .i64 a, .int .i64 b] 53)).alloc (.cells #[.int .i64 k, .int .i64 n, .int .u32 g] 56)) [(w.heap.size + 1 + 1, #[.int .i64 k, .int .i64 n, .int .u32 g], 56), (w.heap.size + 1, #[.int .i64 a, .int .i64 b], 53), (w.heap.size, #[.int .i64 k, .int .i64 n, .int .u32 g], 52)] := by simpa using (((Fr.nil w).new #[.int .i64 k, .int .i64 n, .int .u32 g] 52).new #[.int .i64 a, .int .i64 b] 53).new #[.int .i64 k, .int .i64 n, .int .u32 g] 56
  have N0 : Wn w (((w.alloc (.cells #[.int .i64 k, .int .i64 n, .int .u32 g] 52)).alloc (.cells #[.int .i64 a, .int .i64 b] 53)).alloc (.cells #[.int .i64 k, .int .i64 n, .int .u32 g] 56)) := (((Wn.new hgh).alloc _).alloc _).alloc _
  have HD := Lib.hid hd
  clear hd
  have HP := Lib.hid hp
  have HGG := Lib.hid hgg
  clear hp hgg
  clear hB hgh
  go_enter Tryd.func7, Tryd.ntmps7
  go_wp2_with fail
  refine (enc_no k n g _ HP.out HGG.out).mono ?_
  rintro e w1 ⟨rfl, hb1⟩
  have N9 := N0.step hb1
  clear N0 hb1 F0
  go_wp2_with fail
  refine (dec_n oa nb cp f _ (Bytes.later HBy.out N9.bel) HD.out).mono ?_
  rintro e wb ⟨rfl, hbb⟩
  have Nb := (N9.step hbb).alloc (.cells #[.int .i64 0, .int .i64 0, .int .u32 0] 56)
  clear N9 hbb
  go_wp2_with fail
  refine (sure21_any _ Nb.handle).mono ?_
  rintro e wd ⟨rfl, hbd⟩
  have Nd := Nb.step hbd
  go_wp2_with fail
  go_ret
  exact ⟨rfl, Nd.bel⟩
set_option maxRecDepth 100000 in
set_option maxHeartbeats 8000000 in
theorem back_no (k n g : Int) (a b : Int) (oa : Option Addr) (cp : Nat) (f : Nat → Nat) (w : World) (hgh : Handle w) (hB : Bytes w oa 8 f)
    (hgg : 0 ≤ g) (hp : ¬ (OkP k n ∧ g ≠ 0))  (h0 : f 0 = 99) (h1 : f 1 = 102) (h2 : OkP (f 2) (f 3)) (h3 : gN f ≠ 0) :
    Calls Tryd.prog 7 #[.agg #[.int .i64 k, .int .i64 n, .int .u32 g], .agg #[.int .i64 a, .int .i64 b], .slice oa 8 cp] w fun e w' => e = .returned (.bool true) ∧ Below w.heap.size w w' := by
  have HBy := Lib.hid hB
  have F0 : Fr (((w.alloc (.cells #[.int .i64 k, .int .i64 n, .int .u32 g] 52)).alloc (.cells #[.int .i64 a, .int .i64 b] 53)).alloc (.cells #[.int .i64 k, .int .i64 n, .int .u32 g] 56)) [(w.heap.size + 1 + 1, #[.int .i64 k, .int .i64 n, .int .u32 g], 56), (w.heap.size + 1, #[.int .i64 a, .int .i64 b], 53), (w.heap.size, #[.int .i64 k, .int .i64 n, .int .u32 g], 52)] := by simpa using (((Fr.nil w).new #[.int .i64 k, .int .i64 n, .int .u32 g] 52).new #[.int .i64 a, .int .i64 b] 53).new #[.int .i64 k, .int .i64 n, .int .u32 g] 56
  have N0 : Wn w (((w.alloc (.cells #[.int .i64 k, .int .i64 n, .int .u32 g] 52)).alloc (.cells #[.int .i64 a, .int .i64 b] 53)).alloc (.cells #[.int .i64 k, .int .i64 n, .int .u32 g] 56)) := (((Wn.new hgh).alloc _).alloc _).alloc _
  have HF := Lib.hid (fun i (hi : i < 8) => (hB i hi).1)
  have H0 := Lib.hid h0
  have H1 := Lib.hid h1
  have H2 := Lib.hid h2
  have H3 := Lib.hid h3
  have HS := Lib.hid (strF_congr (cf_same HF.out h0 h1))
  have H38 := Lib.hid (show f 3 < 256 from HF.out 3 (by omega))
  have HGf := Lib.hid (show gN f < 4294967296 by have := HF.out 4 (by omega); have := HF.out 5 (by omega); have := HF.out 6 (by omega); have := HF.out 7 (by omega); unfold gN; omega)
  clear h0 h1 h2 h3
  have HP := Lib.hid hp
  have HGG := Lib.hid hgg
  clear hp hgg
  clear hB hgh
  go_enter Tryd.func7, Tryd.ntmps7
  go_wp2_with fail
  refine (enc_no k n g _ HP.out HGG.out).mono ?_
  rintro e w1 ⟨rfl, hb1⟩
  have N9 := N0.step hb1
  clear N0 hb1 F0
  go_wp2_with fail
  refine (dec_ok oa cp f _ (Bytes.later HBy.out N9.bel) H0.out H1.out H2.out H3.out).mono ?_
  rintro e wb ⟨rfl, hbb⟩
  have Nb := (N9.step hbb).alloc (.cells #[.int .i64 (f 2 : Nat), .int .i64 (f 3 : Nat), .int .u32 (gN f : Nat)] 56)
  clear N9 hbb
  go_wp2_with fail
  refine (enc_ok (f 2) (f 3) (gN f) _ H2.out (Nat.pos_of_ne_zero H3.out) HGf.out).mono ?_
  rintro e wc ⟨bc, rfl, hRc, hbc⟩
  have Nc := Nb.step hbc
  have hy := (Ts.row (cp := 8) hRc (cfF_lt (show f 2 < 256 from HF.out 2 (by omega)) H38.out HGf.out)).conv
  have hBc := Bytes.later HBy.out Nc.bel
  obtain ⟨_, b0, o0, rfl, _⟩ := hBc 0 (by omega)
  have hz : (convert 31 9 (.slice (some ⟨b0, o0, none⟩) 8 cp)).run Tryd.prog wc = .ok (.string (strF 8 f)) wc := Bytes.conv hBc
  rw [HS.out] at hy
  generalize strF 8 f = s at *
  clear Nb hbc hRc hBc
  go_wp2_with fail
  refine (sure21_any _ Nc.handle).mono ?_
  rintro e wd ⟨rfl, hbd⟩
  have Nd := Nc.step hbd
  go_wp2_with fail
  go_ret
  exact ⟨rfl, Nd.bel⟩
set_option maxRecDepth 100000 in
set_option maxHeartbeats 8000000 in
theorem back_on (k n g : Nat) (a b : Int) (oa : Option Addr) (nb : Nat) (cp : Nat) (f : Nat → Nat) (w : World) (hgh : Handle w) (hB : Bytes w oa nb f)
    (h : OkP k n) (hg0 : 0 < g) (hgm : g < 4294967296) (ho : OkP a b) (hgx : g < 4294967295) (hd : ¬ DOk nb f) :
    Calls Tryd.prog 7 #[.agg #[.int .i64 (k : Int), .int .i64 (n : Int), .int .u32 (g : Int)], .agg #[.int .i64 a, .int .i64 b], .slice oa nb cp] w fun e w' => e = .returned (.bool true) ∧ Below w.heap.size w w' := by
  have HBy := Lib.hid hB
  have F0 : Fr (((w.alloc (.cells #[.int .i64 (k : Int), .int .i64 (n : Int), .int .u32 (g : Int)] 52)).alloc (.cells #[.int .i64 a, .int .i64 b] 53)).alloc (.cells #[.int .i64 (k : Int), .int .i64 (n : Int), .int .u32 (g : Int)] 56)) [(w.heap.size + 1 + 1, #[.int .i64 (k : Int), .int .i64 (n : Int), .int .u32 (g : Int)], 56), (w.heap.size + 1, #[.int .i64 a, .int .i64 b], 53), (w.heap.size, #[.int .i64 (k : Int), .int .i64 (n : Int), .int .u32 (g : Int)], 52)] := by simpa using (((Fr.nil w).new #[.int .i64 (k : Int), .int .i64 (n : Int), .int .u32 (g : Int)] 52).new #[.int .i64 a, .int .i64 b] 53).new #[.int .i64 (k : Int), .int .i64 (n : Int), .int .u32 (g : Int)] 56
  have N0 : Wn w (((w.alloc (.cells #[.int .i64 (k : Int), .int .i64 (n : Int), .int .u32 (g : Int)] 52)).alloc (.cells #[.int .i64 a, .int .i64 b] 53)).alloc (.cells #[.int .i64 (k : Int), .int .i64 (n : Int), .int .u32 (g : Int)] 56)) := (((Wn.new hgh).alloc _).alloc _).alloc _
  have HD := Lib.hid hd
  clear hd
  have HP := Lib.hid h
  have HG0 := Lib.hid hg0
  have HGm := Lib.hid hgm
  have HL := Lib.hid (cfF_lt (g := g) (show k < 256 by have := h.2.1; have := h.2.2; omega) (show n < 256 by have := h.2.2; omega) hgm)
  clear h hg0 hgm
  have HO := Lib.hid ho
  have hgx1 : (g : Int) + 1 ≤ 4294967295 := by omega
  have hgx0 : (0 : Int) ≤ (g : Int) := by omega
  have HGX := Lib.hid (show (g : Int) < 4294967295 by omega)
  have HGp := Lib.hid (show (0 : Int) < (g : Int) by have := HG0.out; omega)
  have HGn := Lib.hid (show (g : Int) + 1 ≠ 0 by omega)
  clear ho hgx
  clear hB hgh
  go_enter Tryd.func7, Tryd.ntmps7
  go_wp2_with fail
  refine (enc_ok k n g _ HP.out HG0.out HGm.out).mono ?_
  rintro e w1 ⟨bb, rfl, hR1, hb1⟩
  have N1 := N0.step hb1
  have F1 := F0.later hb1
  clear N0 hb1 F0
  go_wp2_with fail
  refine (dec_back k n g 8 bb _ hR1 HP.out HG0.out HGm.out).mono ?_
  rintro e w2 ⟨rfl, hb2⟩
  have F2 := (F1.later hb2).new #[.int .i64 (k : Int), .int .i64 (n : Int), .int .u32 (g : Int)] 56
  have N2 := (N1.step hb2).alloc (.cells #[.int .i64 (k : Int), .int .i64 (n : Int), .int .u32 (g : Int)] 56)
  have R2 := Row.later (hR1.later hb2) ((Below.refl _ _).alloc (Nat.le_refl _) (.cells #[.int .i64 (k : Int), .int .i64 (n : Int), .int .u32 (g : Int)] 56))
  have hE : Blk ((w2.alloc (.cells #[.int .i64 (k : Int), .int .i64 (n : Int), .int .u32 (g : Int)] 56)).alloc (.cells #[] 5)) (w2.heap.size + 1) #[] 5 := blk2' _ _ _ _ 5
  have R3 := Row.later R2 ((Below.refl _ _).alloc (Nat.le_refl _) (.cells #[] 5))
  have hG3 := Grow.empty hE (Nat.le_refl _) (fun _ => 0)
  have HG3 := Lib.hid hG3
  have HR3 := Lib.hid (R3.bytes HL.out)
  clear N1 F1 hb2 hR1 hE hG3 R2 R3
  go_wp2_with (at_builtin; refine wpList_appB rfl (.tmp 35) (.tmp 36) rfl (w2.heap.size + 1) _ 0 8 8 bb 0 (fun _ => 0) (cfF k n g) _ rfl HG3.out rfl HR3.out (by omega) ?c1 ?_)
  case c1 => simp
  intro v4 w4 hG4 hb4
  have hb4' : Below (w2.alloc (.cells #[.int .i64 (k : Int), .int .i64 (n : Int), .int .u32 (g : Int)] 56)).heap.size (w2.alloc (.cells #[.int .i64 (k : Int), .int .i64 (n : Int), .int .u32 (g : Int)] 56)) w4 := ((Below.refl _ _).alloc (Nat.le_refl _) (.cells #[] 5)).trans (by simpa using hb4)
  have hs4 : w2.heap.size + 1 ≤ w4.heap.size := by have := hb4'.size; simpa using this
  have HB4 := Lib.hid hb4'
  clear HG3 HR3 hb4 hb4'
  go_wp2_with (at_builtin; refine wpList_app8 rfl (.tmp 37) (.tmp 38) rfl (w2.heap.size + 1) v4 8 (catF 0 (fun _ => 0) (cfF k n g)) 0 w4 rfl hG4 rfl (by omega) hs4 ?_)
  intro v5 w5 hG5 hb5 _
  have hb5' : Below (w2.alloc (.cells #[.int .i64 (k : Int), .int .i64 (n : Int), .int .u32 (g : Int)] 56)).heap.size (w2.alloc (.cells #[.int .i64 (k : Int), .int .i64 (n : Int), .int .u32 (g : Int)] 56)) w5 := HB4.out.trans (by simpa using hb5)
  have N5 := N2.step hb5'
  have F5 := F2.later hb5'
  obtain ⟨oa5, cap5, rfl, hB5, _⟩ := hG5.bytes (nine_lt HL.out)
  clear N2 F2 HB4 hb5 hb5' hG4 hG5 hs4
  go_wp2_with fail
  refine (dec_len oa5 9 cap5 _ _ hB5 (by omega)).mono ?_
  rintro e w6 ⟨rfl, hb6⟩
  have F6 := (F5.later hb6).new #[.int .i64 0, .int .i64 0, .int .u32 0] 56
  have N6 := (N5.step hb6).alloc (.cells #[.int .i64 0, .int .i64 0, .int .u32 0] 56)
  clear N5 F5 hb6 hB5
  have r20 : (w6.alloc (.cells #[.int .i64 0, .int .i64 0, .int .u32 0] 56)).cell? ⟨w.heap.size + 1 + 1, 0, none⟩ = some (.int .i64 (k : Int)) := F6.cell 2 0 rfl rfl
  have r21 : (w6.alloc (.cells #[.int .i64 0, .int .i64 0, .int .u32 0] 56)).cell? ⟨w.heap.size + 1 + 1, 1, none⟩ = some (.int .i64 (n : Int)) := F6.cell 2 1 rfl rfl
  have r22 : (w6.alloc (.cells #[.int .i64 0, .int .i64 0, .int .u32 0] 56)).cell? ⟨w.heap.size + 1 + 1, 2, none⟩ = some (.int .u32 (g : Int)) := F6.cell 2 2 rfl rfl
  have r30 : (w6.alloc (.cells #[.int .i64 0, .int .i64 0, .int .u32 0] 56)).cell? ⟨w.heap.size + 1, 0, none⟩ = some (.int .i64 a) := F6.cell 3 0 rfl rfl
  have r31 : (w6.alloc (.cells #[.int .i64 0, .int .i64 0, .int .u32 0] 56)).cell? ⟨w.heap.size + 1, 1, none⟩ = some (.int .i64 b) := F6.cell 3 1 rfl rfl
  go_wp2_with fail
  refine (next_ok k n g a b _ HP.out HO.out HGp.out HGX.out).mono ?_
  rintro e w7 ⟨rfl, hb7⟩
  have F7 := (F6.later hb7).new #[.int .i64 a, .int .i64 b, .int .u32 ((g : Int) + 1)] 56
  have N7 := (N6.step hb7).alloc (.cells #[.int .i64 a, .int .i64 b, .int .u32 ((g : Int) + 1)] 56)
  clear N6 F6 hb7 r20 r21 r22 r30 r31
  have u20 : (w7.alloc (.cells #[.int .i64 a, .int .i64 b, .int .u32 ((g : Int) + 1)] 56)).cell? ⟨w2.heap.size, 0, none⟩ = some (.int .i64 (k : Int)) := F7.cell 2 0 rfl rfl
  have u21 : (w7.alloc (.cells #[.int .i64 a, .int .i64 b, .int .u32 ((g : Int) + 1)] 56)).cell? ⟨w2.heap.size, 1, none⟩ = some (.int .i64 (n : Int)) := F7.cell 2 1 rfl rfl
  have u22 : (w7.alloc (.cells #[.int .i64 a, .int .i64 b, .int .u32 ((g : Int) + 1)] 56)).cell? ⟨w2.heap.size, 2, none⟩ = some (.int .u32 (g : Int)) := F7.cell 2 2 rfl rfl
  have u30 : (w7.alloc (.cells #[.int .i64 a, .int .i64 b, .int .u32 ((g : Int) + 1)] 56)).cell? ⟨w.heap.size + 1 + 1, 0, none⟩ = some (.int .i64 (k : Int)) := F7.cell 3 0 rfl rfl
  have u31 : (w7.alloc (.cells #[.int .i64 a, .int .i64 b, .int .u32 ((g : Int) + 1)] 56)).cell? ⟨w.heap.size + 1 + 1, 1, none⟩ = some (.int .i64 (n : Int)) := F7.cell 3 1 rfl rfl
  have u32 : (w7.alloc (.cells #[.int .i64 a, .int .i64 b, .int .u32 ((g : Int) + 1)] 56)).cell? ⟨w.heap.size + 1 + 1, 2, none⟩ = some (.int .u32 (g : Int)) := F7.cell 3 2 rfl rfl
  go_wp2_with fail
  refine (num_err21 4 _ N7.handle).mono ?_
  rintro e w8 ⟨rfl, hb8⟩
  have F8 := F7.later hb8
  have N8 := N7.step hb8
  clear N7 F7 hb8 u20 u21 u22 u30 u31 u32
  have x00 : w8.cell? ⟨w7.heap.size, 0, none⟩ = some (.int .i64 a) := F8.cell 0 0 rfl rfl
  have x01 : w8.cell? ⟨w7.heap.size, 1, none⟩ = some (.int .i64 b) := F8.cell 0 1 rfl rfl
  have x02 : w8.cell? ⟨w7.heap.size, 2, none⟩ = some (.int .u32 ((g : Int) + 1)) := F8.cell 0 2 rfl rfl
  have x40 : w8.cell? ⟨w.heap.size + 1, 0, none⟩ = some (.int .i64 a) := F8.cell 4 0 rfl rfl
  have x41 : w8.cell? ⟨w.heap.size + 1, 1, none⟩ = some (.int .i64 b) := F8.cell 4 1 rfl rfl
  have x50 : w8.cell? ⟨w.heap.size, 0, none⟩ = some (.int .i64 (k : Int)) := F8.cell 5 0 rfl rfl
  have x51 : w8.cell? ⟨w.heap.size, 1, none⟩ = some (.int .i64 (n : Int)) := F8.cell 5 1 rfl rfl
  have x52 : w8.cell? ⟨w.heap.size, 2, none⟩ = some (.int .u32 (g : Int)) := F8.cell 5 2 rfl rfl
  go_wp2_with fail
  refine (ccheck_ok a b ((g : Int) + 1) _ HO.out HGn.out).mono ?_
  rintro e w9 ⟨rfl, hb9⟩
  have N9 := N8.step hb9
  clear N8 F8 hb9 x00 x01 x02 x40 x41 x50 x51 x52
  go_wp2_with fail
  refine (dec_n oa nb cp f _ (Bytes.later HBy.out N9.bel) HD.out).mono ?_
  rintro e wb ⟨rfl, hbb⟩
  have Nb := (N9.step hbb).alloc (.cells #[.int .i64 0, .int .i64 0, .int .u32 0] 56)
  clear N9 hbb
  go_wp2_with fail
  refine (sure21_any _ Nb.handle).mono ?_
  rintro e wd ⟨rfl, hbd⟩
  have Nd := Nb.step hbd
  go_wp2_with fail
  go_ret
  exact ⟨rfl, Nd.bel⟩
set_option maxRecDepth 100000 in
set_option maxHeartbeats 8000000 in
theorem back_oo (k n g : Nat) (a b : Int) (oa : Option Addr) (cp : Nat) (f : Nat → Nat) (w : World) (hgh : Handle w) (hB : Bytes w oa 8 f)
    (h : OkP k n) (hg0 : 0 < g) (hgm : g < 4294967296) (ho : OkP a b) (hgx : g < 4294967295) (h0 : f 0 = 99) (h1 : f 1 = 102) (h2 : OkP (f 2) (f 3)) (h3 : gN f ≠ 0) :
    Calls Tryd.prog 7 #[.agg #[.int .i64 (k : Int), .int .i64 (n : Int), .int .u32 (g : Int)], .agg #[.int .i64 a, .int .i64 b], .slice oa 8 cp] w fun e w' => e = .returned (.bool true) ∧ Below w.heap.size w w' := by
  have HBy := Lib.hid hB
  have F0 : Fr (((w.alloc (.cells #[.int .i64 (k : Int), .int .i64 (n : Int), .int .u32 (g : Int)] 52)).alloc (.cells #[.int .i64 a, .int .i64 b] 53)).alloc (.cells #[.int .i64 (k : Int), .int .i64 (n : Int), .int .u32 (g : Int)] 56)) [(w.heap.size + 1 + 1, #[.int .i64 (k : Int), .int .i64 (n : Int), .int .u32 (g : Int)], 56), (w.heap.size + 1, #[.int .i64 a, .int .i64 b], 53), (w.heap.size, #[.int .i64 (k : Int), .int .i64 (n : Int), .int .u32 (g : Int)], 52)] := by simpa using (((Fr.nil w).new #[.int .i64 (k : Int), .int .i64 (n : Int), .int .u32 (g : Int)] 52).new #[.int .i64 a, .int .i64 b] 53).new #[.int .i64 (k : Int), .int .i64 (n : Int), .int .u32 (g : Int)] 56
  have N0 : Wn w (((w.alloc (.cells #[.int .i64 (k : Int), .int .i64 (n : Int), .int .u32 (g : Int)] 52)).alloc (.cells #[.int .i64 a, .int .i64 b] 53)).alloc (.cells #[.int .i64 (k : Int), .int .i64 (n : Int), .int .u32 (g : Int)] 56)) := (((Wn.new hgh).alloc _).alloc _).alloc _
  have HF := Lib.hid (fun i (hi : i < 8) => (hB i hi).1)
  have H0 := Lib.hid h0
  have H1 := Lib.hid h1
  have H2 := Lib.hid h2
  have H3 := Lib.hid h3
  have HS := Lib.hid (strF_congr (cf_same HF.out h0 h1))
  have H38 := Lib.hid (show f 3 < 256 from HF.out 3 (by omega))
  have HGf := Lib.hid (show gN f < 4294967296 by have := HF.out 4 (by omega); have := HF.out 5 (by omega); have := HF.out 6 (by omega); have := HF.out 7 (by omega); unfold gN; omega)
  clear h0 h1 h2 h3
  have HP := Lib.hid h
  have HG0 := Lib.hid hg0
  have HGm := Lib.hid hgm
  have HL := Lib.hid (cfF_lt (g := g) (show k < 256 by have := h.2.1; have := h.2.2; omega) (show n < 256 by have := h.2.2; omega) hgm)
  clear h hg0 hgm
  have HO := Lib.hid ho
  have hgx1 : (g : Int) + 1 ≤ 4294967295 := by omega
  have hgx0 : (0 : Int) ≤ (g : Int) := by omega
  have HGX := Lib.hid (show (g : Int) < 4294967295 by omega)
  have HGp := Lib.hid (show (0 : Int) < (g : Int) by have := HG0.out; omega)
  have HGn := Lib.hid (show (g : Int) + 1 ≠ 0 by omega)
  clear ho hgx
  clear hB hgh
  go_enter Tryd.func7, Tryd.ntmps7
  go_wp2_with fail
  refine (enc_ok k n g _ HP.out HG0.out HGm.out).mono ?_
  rintro e w1 ⟨bb, rfl, hR1, hb1⟩
  have N1 := N0.step hb1
  have F1 := F0.later hb1
  clear N0 hb1 F0
  go_wp2_with fail
  refine (dec_back k n g 8 bb _ hR1 HP.out HG0.out HGm.out).mono ?_
  rintro e w2 ⟨rfl, hb2⟩
  have F2 := (F1.later hb2).new #[.int .i64 (k : Int), .int .i64 (n : Int), .int .u32 (g : Int)] 56
  have N2 := (N1.step hb2).alloc (.cells #[.int .i64 (k : Int), .int .i64 (n : Int), .int .u32 (g : Int)] 56)
  have R2 := Row.later (hR1.later hb2) ((Below.refl _ _).alloc (Nat.le_refl _) (.cells #[.int .i64 (k : Int), .int .i64 (n : Int), .int .u32 (g : Int)] 56))
  have hE : Blk ((w2.alloc (.cells #[.int .i64 (k : Int), .int .i64 (n : Int), .int .u32 (g : Int)] 56)).alloc (.cells #[] 5)) (w2.heap.size + 1) #[] 5 := blk2' _ _ _ _ 5
  have R3 := Row.later R2 ((Below.refl _ _).alloc (Nat.le_refl _) (.cells #[] 5))
  have hG3 := Grow.empty hE (Nat.le_refl _) (fun _ => 0)
  have HG3 := Lib.hid hG3
  have HR3 := Lib.hid (R3.bytes HL.out)
  clear N1 F1 hb2 hR1 hE hG3 R2 R3
  go_wp2_with (at_builtin; refine wpList_appB rfl (.tmp 35) (.tmp 36) rfl (w2.heap.size + 1) _ 0 8 8 bb 0 (fun _ => 0) (cfF k n g) _ rfl HG3.out rfl HR3.out (by omega) ?c1 ?_)
  case c1 => simp
  intro v4 w4 hG4 hb4
  have hb4' : Below (w2.alloc (.cells #[.int .i64 (k : Int), .int .i64 (n : Int), .int .u32 (g : Int)] 56)).heap.size (w2.alloc (.cells #[.int .i64 (k : Int), .int .i64 (n : Int), .int .u32 (g : Int)] 56)) w4 := ((Below.refl _ _).alloc (Nat.le_refl _) (.cells #[] 5)).trans (by simpa using hb4)
  have hs4 : w2.heap.size + 1 ≤ w4.heap.size := by have := hb4'.size; simpa using this
  have HB4 := Lib.hid hb4'
  clear HG3 HR3 hb4 hb4'
  go_wp2_with (at_builtin; refine wpList_app8 rfl (.tmp 37) (.tmp 38) rfl (w2.heap.size + 1) v4 8 (catF 0 (fun _ => 0) (cfF k n g)) 0 w4 rfl hG4 rfl (by omega) hs4 ?_)
  intro v5 w5 hG5 hb5 _
  have hb5' : Below (w2.alloc (.cells #[.int .i64 (k : Int), .int .i64 (n : Int), .int .u32 (g : Int)] 56)).heap.size (w2.alloc (.cells #[.int .i64 (k : Int), .int .i64 (n : Int), .int .u32 (g : Int)] 56)) w5 := HB4.out.trans (by simpa using hb5)
  have N5 := N2.step hb5'
  have F5 := F2.later hb5'
  obtain ⟨oa5, cap5, rfl, hB5, _⟩ := hG5.bytes (nine_lt HL.out)
  clear N2 F2 HB4 hb5 hb5' hG4 hG5 hs4
  go_wp2_with fail
  refine (dec_len oa5 9 cap5 _ _ hB5 (by omega)).mono ?_
  rintro e w6 ⟨rfl, hb6⟩
  have F6 := (F5.later hb6).new #[.int .i64 0, .int .i64 0, .int .u32 0] 56
  have N6 := (N5.step hb6).alloc (.cells #[.int .i64 0, .int .i64 0, .int .u32 0] 56)
  clear N5 F5 hb6 hB5
  have r20 : (w6.alloc (.cells #[.int .i64 0, .int .i64 0, .int .u32 0] 56)).cell? ⟨w.heap.size + 1 + 1, 0, none⟩ = some (.int .i64 (k : Int)) := F6.cell 2 0 rfl rfl
  have r21 : (w6.alloc (.cells #[.int .i64 0, .int .i64 0, .int .u32 0] 56)).cell? ⟨w.heap.size + 1 + 1, 1, none⟩ = some (.int .i64 (n : Int)) := F6.cell 2 1 rfl rfl
  have r22 : (w6.alloc (.cells #[.int .i64 0, .int .i64 0, .int .u32 0] 56)).cell? ⟨w.heap.size + 1 + 1, 2, none⟩ = some (.int .u32 (g : Int)) := F6.cell 2 2 rfl rfl
  have r30 : (w6.alloc (.cells #[.int .i64 0, .int .i64 0, .int .u32 0] 56)).cell? ⟨w.heap.size + 1, 0, none⟩ = some (.int .i64 a) := F6.cell 3 0 rfl rfl
  have r31 : (w6.alloc (.cells #[.int .i64 0, .int .i64 0, .int .u32 0] 56)).cell? ⟨w.heap.size + 1, 1, none⟩ = some (.int .i64 b) := F6.cell 3 1 rfl rfl
  go_wp2_with fail
  refine (next_ok k n g a b _ HP.out HO.out HGp.out HGX.out).mono ?_
  rintro e w7 ⟨rfl, hb7⟩
  have F7 := (F6.later hb7).new #[.int .i64 a, .int .i64 b, .int .u32 ((g : Int) + 1)] 56
  have N7 := (N6.step hb7).alloc (.cells #[.int .i64 a, .int .i64 b, .int .u32 ((g : Int) + 1)] 56)
  clear N6 F6 hb7 r20 r21 r22 r30 r31
  have u20 : (w7.alloc (.cells #[.int .i64 a, .int .i64 b, .int .u32 ((g : Int) + 1)] 56)).cell? ⟨w2.heap.size, 0, none⟩ = some (.int .i64 (k : Int)) := F7.cell 2 0 rfl rfl
  have u21 : (w7.alloc (.cells #[.int .i64 a, .int .i64 b, .int .u32 ((g : Int) + 1)] 56)).cell? ⟨w2.heap.size, 1, none⟩ = some (.int .i64 (n : Int)) := F7.cell 2 1 rfl rfl
  have u22 : (w7.alloc (.cells #[.int .i64 a, .int .i64 b, .int .u32 ((g : Int) + 1)] 56)).cell? ⟨w2.heap.size, 2, none⟩ = some (.int .u32 (g : Int)) := F7.cell 2 2 rfl rfl
  have u30 : (w7.alloc (.cells #[.int .i64 a, .int .i64 b, .int .u32 ((g : Int) + 1)] 56)).cell? ⟨w.heap.size + 1 + 1, 0, none⟩ = some (.int .i64 (k : Int)) := F7.cell 3 0 rfl rfl
  have u31 : (w7.alloc (.cells #[.int .i64 a, .int .i64 b, .int .u32 ((g : Int) + 1)] 56)).cell? ⟨w.heap.size + 1 + 1, 1, none⟩ = some (.int .i64 (n : Int)) := F7.cell 3 1 rfl rfl
  have u32 : (w7.alloc (.cells #[.int .i64 a, .int .i64 b, .int .u32 ((g : Int) + 1)] 56)).cell? ⟨w.heap.size + 1 + 1, 2, none⟩ = some (.int .u32 (g : Int)) := F7.cell 3 2 rfl rfl
  go_wp2_with fail
  refine (num_err21 4 _ N7.handle).mono ?_
  rintro e w8 ⟨rfl, hb8⟩
  have F8 := F7.later hb8
  have N8 := N7.step hb8
  clear N7 F7 hb8 u20 u21 u22 u30 u31 u32
  have x00 : w8.cell? ⟨w7.heap.size, 0, none⟩ = some (.int .i64 a) := F8.cell 0 0 rfl rfl
  have x01 : w8.cell? ⟨w7.heap.size, 1, none⟩ = some (.int .i64 b) := F8.cell 0 1 rfl rfl
  have x02 : w8.cell? ⟨w7.heap.size, 2, none⟩ = some (.int .u32 ((g : Int) + 1)) := F8.cell 0 2 rfl rfl
  have x40 : w8.cell? ⟨w.heap.size + 1, 0, none⟩ = some (.int .i64 a) := F8.cell 4 0 rfl rfl
  have x41 : w8.cell? ⟨w.heap.size + 1, 1, none⟩ = some (.int .i64 b) := F8.cell 4 1 rfl rfl
  have x50 : w8.cell? ⟨w.heap.size, 0, none⟩ = some (.int .i64 (k : Int)) := F8.cell 5 0 rfl rfl
  have x51 : w8.cell? ⟨w.heap.size, 1, none⟩ = some (.int .i64 (n : Int)) := F8.cell 5 1 rfl rfl
  have x52 : w8.cell? ⟨w.heap.size, 2, none⟩ = some (.int .u32 (g : Int)) := F8.cell 5 2 rfl rfl
  go_wp2_with fail
  refine (ccheck_ok a b ((g : Int) + 1) _ HO.out HGn.out).mono ?_
  rintro e w9 ⟨rfl, hb9⟩
  have N9 := N8.step hb9
  clear N8 F8 hb9 x00 x01 x02 x40 x41 x50 x51 x52
  go_wp2_with fail
  refine (dec_ok oa cp f _ (Bytes.later HBy.out N9.bel) H0.out H1.out H2.out H3.out).mono ?_
  rintro e wb ⟨rfl, hbb⟩
  have Nb := (N9.step hbb).alloc (.cells #[.int .i64 (f 2 : Nat), .int .i64 (f 3 : Nat), .int .u32 (gN f : Nat)] 56)
  clear N9 hbb
  go_wp2_with fail
  refine (enc_ok (f 2) (f 3) (gN f) _ H2.out (Nat.pos_of_ne_zero H3.out) HGf.out).mono ?_
  rintro e wc ⟨bc, rfl, hRc, hbc⟩
  have Nc := Nb.step hbc
  have hy := (Ts.row (cp := 8) hRc (cfF_lt (show f 2 < 256 from HF.out 2 (by omega)) H38.out HGf.out)).conv
  have hBc := Bytes.later HBy.out Nc.bel
  obtain ⟨_, b0, o0, rfl, _⟩ := hBc 0 (by omega)
  have hz : (convert 31 9 (.slice (some ⟨b0, o0, none⟩) 8 cp)).run Tryd.prog wc = .ok (.string (strF 8 f)) wc := Bytes.conv hBc
  rw [HS.out] at hy
  generalize strF 8 f = s at *
  clear Nb hbc hRc hBc
  go_wp2_with fail
  refine (sure21_any _ Nc.handle).mono ?_
  rintro e wd ⟨rfl, hbd⟩
  have Nd := Nc.step hbd
  go_wp2_with fail
  go_ret
  exact ⟨rfl, Nd.bel⟩
set_option maxRecDepth 100000 in
set_option maxHeartbeats 8000000 in
theorem back_en (k n g : Nat) (a b : Int) (oa : Option Addr) (nb : Nat) (cp : Nat) (f : Nat → Nat) (w : World) (hgh : Handle w) (hB : Bytes w oa nb f)
    (h : OkP k n) (hg0 : 0 < g) (hgm : g < 4294967296) (m : Int) (hnx : ∀ w, Calls Tryd.prog 31 #[.agg #[.int .i64 (k : Int), .int .i64 (n : Int), .int .u32 (g : Int)], .int .i64 a, .int .i64 b] w fun e w' => e = .returned (.tuple #[.agg #[.int .i64 0, .int .i64 0, .int .u32 0], .iface 146 (.int .i64 m)]) ∧ Below w.heap.size w w') (hd : ¬ DOk nb f) :
    Calls Tryd.prog 7 #[.agg #[.int .i64 (k : Int), .int .i64 (n : Int), .int .u32 (g : Int)], .agg #[.int .i64 a, .int .i64 b], .slice oa nb cp] w fun e w' => e = .returned (.bool true) ∧ Below w.heap.size w w' := by
  have HBy := Lib.hid hB
  have F0 : Fr (((w.alloc (.cells #[.int .i64 (k : Int), .int .i64 (n : Int), .int .u32 (g : Int)] 52)).alloc (.cells #[.int .i64 a, .int .i64 b] 53)).alloc (.cells #[.int .i64 (k : Int), .int .i64 (n : Int), .int .u32 (g : Int)] 56)) [(w.heap.size + 1 + 1, #[.int .i64 (k : Int), .int .i64 (n : Int), .int .u32 (g : Int)], 56), (w.heap.size + 1, #[.int .i64 a, .int .i64 b], 53), (w.heap.size, #[.int .i64 (k : Int), .int .i64 (n : Int), .int .u32 (g : Int)], 52)] := by simpa using (((Fr.nil w).new #[.int .i64 (k : Int), .int .i64 (n : Int), .int .u32 (g : Int)] 52).new #[.int .i64 a, .int .i64 b] 53).new #[.int .i64 (k : Int), .int .i64 (n : Int), .int .u32 (g : Int)] 56
  have N0 : Wn w (((w.alloc (.cells #[.int .i64 (k : Int), .int .i64 (n : Int), .int .u32 (g : Int)] 52)).alloc (.cells #[.int .i64 a, .int .i64 b] 53)).alloc (.cells #[.int .i64 (k : Int), .int .i64 (n : Int), .int .u32 (g : Int)] 56)) := (((Wn.new hgh).alloc _).alloc _).alloc _
  have HD := Lib.hid hd
  clear hd
  have HP := Lib.hid h
  have HG0 := Lib.hid hg0
  have HGm := Lib.hid hgm
  have HL := Lib.hid (cfF_lt (g := g) (show k < 256 by have := h.2.1; have := h.2.2; omega) (show n < 256 by have := h.2.2; omega) hgm)
  clear h hg0 hgm
  have HN := Lib.hid hnx
  clear hnx
  clear hB hgh
  go_enter Tryd.func7, Tryd.ntmps7
  go_wp2_with fail
  refine (enc_ok k n g _ HP.out HG0.out HGm.out).mono ?_
  rintro e w1 ⟨bb, rfl, hR1, hb1⟩
  have N1 := N0.step hb1
  have F1 := F0.later hb1
  clear N0 hb1 F0
  go_wp2_with fail
  refine (dec_back k n g 8 bb _ hR1 HP.out HG0.out HGm.out).mono ?_
  rintro e w2 ⟨rfl, hb2⟩
  have F2 := (F1.later hb2).new #[.int .i64 (k : Int), .int .i64 (n : Int), .int .u32 (g : Int)] 56
  have N2 := (N1.step hb2).alloc (.cells #[.int .i64 (k : Int), .int .i64 (n : Int), .int .u32 (g : Int)] 56)
  have R2 := Row.later (hR1.later hb2) ((Below.refl _ _).alloc (Nat.le_refl _) (.cells #[.int .i64 (k : Int), .int .i64 (n : Int), .int .u32 (g : Int)] 56))
  have hE : Blk ((w2.alloc (.cells #[.int .i64 (k : Int), .int .i64 (n : Int), .int .u32 (g : Int)] 56)).alloc (.cells #[] 5)) (w2.heap.size + 1) #[] 5 := blk2' _ _ _ _ 5
  have R3 := Row.later R2 ((Below.refl _ _).alloc (Nat.le_refl _) (.cells #[] 5))
  have hG3 := Grow.empty hE (Nat.le_refl _) (fun _ => 0)
  have HG3 := Lib.hid hG3
  have HR3 := Lib.hid (R3.bytes HL.out)
  clear N1 F1 hb2 hR1 hE hG3 R2 R3
  go_wp2_with (at_builtin; refine wpList_appB rfl (.tmp 35) (.tmp 36) rfl (w2.heap.size + 1) _ 0 8 8 bb 0 (fun _ => 0) (cfF k n g) _ rfl HG3.out rfl HR3.out (by omega) ?c1 ?_)
  case c1 => simp
  intro v4 w4 hG4 hb4
  have hb4' : Below (w2.alloc (.cells #[.int .i64 (k : Int), .int .i64 (n : Int), .int .u32 (g : Int)] 56)).heap.size (w2.alloc (.cells #[.int .i64 (k : Int), .int .i64 (n : Int), .int .u32 (g : Int)] 56)) w4 := ((Below.refl _ _).alloc (Nat.le_refl _) (.cells #[] 5)).trans (by simpa using hb4)
  have hs4 : w2.heap.size + 1 ≤ w4.heap.size := by have := hb4'.size; simpa using this
  have HB4 := Lib.hid hb4'
  clear HG3 HR3 hb4 hb4'
  go_wp2_with (at_builtin; refine wpList_app8 rfl (.tmp 37) (.tmp 38) rfl (w2.heap.size + 1) v4 8 (catF 0 (fun _ => 0) (cfF k n g)) 0 w4 rfl hG4 rfl (by omega) hs4 ?_)
  intro v5 w5 hG5 hb5 _
  have hb5' : Below (w2.alloc (.cells #[.int .i64 (k : Int), .int .i64 (n : Int), .int .u32 (g : Int)] 56)).heap.size (w2.alloc (.cells #[.int .i64 (k : Int), .int .i64 (n : Int), .int .u32 (g : Int)] 56)) w5 := HB4.out.trans (by simpa using hb5)
  have N5 := N2.step hb5'
  have F5 := F2.later hb5'
  obtain ⟨oa5, cap5, rfl, hB5, _⟩ := hG5.bytes (nine_lt HL.out)
  clear N2 F2 HB4 hb5 hb5' hG4 hG5 hs4
  go_wp2_with fail
  refine (dec_len oa5 9 cap5 _ _ hB5 (by omega)).mono ?_
  rintro e w6 ⟨rfl, hb6⟩
  have F6 := (F5.later hb6).new #[.int .i64 0, .int .i64 0, .int .u32 0] 56
  have N6 := (N5.step hb6).alloc (.cells #[.int .i64 0, .int .i64 0, .int .u32 0] 56)
  clear N5 F5 hb6 hB5
  have r20 : (w6.alloc (.cells #[.int .i64 0, .int .i64 0, .int .u32 0] 56)).cell? ⟨w.heap.size + 1 + 1, 0, none⟩ = some (.int .i64 (k : Int)) := F6.cell 2 0 rfl rfl
  have r21 : (w6.alloc (.cells #[.int .i64 0, .int .i64 0, .int .u32 0] 56)).cell? ⟨w.heap.size + 1 + 1, 1, none⟩ = some (.int .i64 (n : Int)) := F6.cell 2 1 rfl rfl
  have r22 : (w6.alloc (.cells #[.int .i64 0, .int .i64 0, .int .u32 0] 56)).cell? ⟨w.heap.size + 1 + 1, 2, none⟩ = some (.int .u32 (g : Int)) := F6.cell 2 2 rfl rfl
  have r30 : (w6.alloc (.cells #[.int .i64 0, .int .i64 0, .int .u32 0] 56)).cell? ⟨w.heap.size + 1, 0, none⟩ = some (.int .i64 a) := F6.cell 3 0 rfl rfl
  have r31 : (w6.alloc (.cells #[.int .i64 0, .int .i64 0, .int .u32 0] 56)).cell? ⟨w.heap.size + 1, 1, none⟩ = some (.int .i64 b) := F6.cell 3 1 rfl rfl
  go_wp2_with fail
  refine (HN.out _).mono ?_
  rintro e w7 ⟨rfl, hb7⟩
  have F7 := (F6.later hb7).new #[.int .i64 0, .int .i64 0, .int .u32 0] 56
  have N7 := (N6.step hb7).alloc (.cells #[.int .i64 0, .int .i64 0, .int .u32 0] 56)
  clear N6 F6 hb7 r20 r21 r22 r30 r31
  have u20 : (w7.alloc (.cells #[.int .i64 0, .int .i64 0, .int .u32 0] 56)).cell? ⟨w2.heap.size, 0, none⟩ = some (.int .i64 (k : Int)) := F7.cell 2 0 rfl rfl
  have u21 : (w7.alloc (.cells #[.int .i64 0, .int .i64 0, .int .u32 0] 56)).cell? ⟨w2.heap.size, 1, none⟩ = some (.int .i64 (n : Int)) := F7.cell 2 1 rfl rfl
  have u22 : (w7.alloc (.cells #[.int .i64 0, .int .i64 0, .int .u32 0] 56)).cell? ⟨w2.heap.size, 2, none⟩ = some (.int .u32 (g : Int)) := F7.cell 2 2 rfl rfl
  have u30 : (w7.alloc (.cells #[.int .i64 0, .int .i64 0, .int .u32 0] 56)).cell? ⟨w.heap.size + 1 + 1, 0, none⟩ = some (.int .i64 (k : Int)) := F7.cell 3 0 rfl rfl
  have u31 : (w7.alloc (.cells #[.int .i64 0, .int .i64 0, .int .u32 0] 56)).cell? ⟨w.heap.size + 1 + 1, 1, none⟩ = some (.int .i64 (n : Int)) := F7.cell 3 1 rfl rfl
  have u32 : (w7.alloc (.cells #[.int .i64 0, .int .i64 0, .int .u32 0] 56)).cell? ⟨w.heap.size + 1 + 1, 2, none⟩ = some (.int .u32 (g : Int)) := F7.cell 3 2 rfl rfl
  go_wp2_with fail
  refine (num_err21 4 _ N7.handle).mono ?_
  rintro e w8 ⟨rfl, hb8⟩
  have F8 := F7.later hb8
  have N8 := N7.step hb8
  clear N7 F7 hb8 u20 u21 u22 u30 u31 u32
  have N9 := N8
  clear N8 F8
  go_wp2_with fail
  refine (dec_n oa nb cp f _ (Bytes.later HBy.out N9.bel) HD.out).mono ?_
  rintro e wb ⟨rfl, hbb⟩
  have Nb := (N9.step hbb).alloc (.cells #[.int .i64 0, .int .i64 0, .int .u32 0] 56)
  clear N9 hbb
  go_wp2_with fail
  refine (sure21_any _ Nb.handle).mono ?_
  rintro e wd ⟨rfl, hbd⟩
  have Nd := Nb.step hbd
  go_wp2_with fail
  go_ret
  exact ⟨rfl, Nd.bel⟩
set_option maxRecDepth 100000 in
set_option maxHeartbeats 8000000 in
theorem back_eo (k n g : Nat) (a b : Int) (oa : Option Addr) (cp : Nat) (f : Nat → Nat) (w : World) (hgh : Handle w) (hB : Bytes w oa 8 f)
    (h : OkP k n) (hg0 : 0 < g) (hgm : g < 4294967296) (m : Int) (hnx : ∀ w, Calls Tryd.prog 31 #[.agg #[.int .i64 (k : Int), .int .i64 (n : Int), .int .u32 (g : Int)], .int .i64 a, .int .i64 b] w fun e w' => e = .returned (.tuple #[.agg #[.int .i64 0, .int .i64 0, .int .u32 0], .iface 146 (.int .i64 m)]) ∧ Below w.heap.size w w') (h0 : f 0 = 99) (h1 : f 1 = 102) (h2 : OkP (f 2) (f 3)) (h3 : gN f ≠ 0) :
    Calls Tryd.prog 7 #[.agg #[.int .i64 (k : Int), .int .i64 (n : Int), .int .u32 (g : Int)], .agg #[.int .i64 a, .int .i64 b], .slice oa 8 cp] w fun e w' => e = .returned (.bool true) ∧ Below w.heap.size w w' := by
  have HBy := Lib.hid hB
  have F0 : Fr (((w.alloc (.cells #[.int .i64 (k : Int), .int .i64 (n : Int), .int .u32 (g : Int)] 52)).alloc (.cells #[.int .i64 a, .int .i64 b] 53)).alloc (.cells #[.int .i64 (k : Int), .int .i64 (n : Int), .int .u32 (g : Int)] 56)) [(w.heap.size + 1 + 1, #[.int .i64 (k : Int), .int .i64 (n : Int), .int .u32 (g : Int)], 56), (w.heap.size + 1, #[.int .i64 a, .int .i64 b], 53), (w.heap.size, #[.int .i64 (k : Int), .int .i64 (n : Int), .int .u32 (g : Int)], 52)] := by simpa using (((Fr.nil w).new #[.int .i64 (k : Int), .int .i64 (n : Int), .int .u32 (g : Int)] 52).new #[.int .i64 a, .int .i64 b] 53).new #[.int .i64 (k : Int), .int .i64 (n : Int), .int .u32 (g : Int)] 56
  have N0 : Wn w (((w.alloc (.cells #[.int .i64 (k : Int), .int .i64 (n : Int), .int .u32 (g : Int)] 52)).alloc (.cells #[.int .i64 a, .int .i64 b] 53)).alloc (.cells #[.int .i64 (k : Int), .int .i64 (n : Int), .int .u32 (g : Int)] 56)) := (((Wn.new hgh).alloc _).alloc _).alloc _
  have HF := Lib.hid (fun i (hi : i < 8) => (hB i hi).1)
  have H0 := Lib.hid h0
  have H1 := Lib.hid h1
  have H2 := Lib.hid h2
  have H3 := Lib.hid h3
  have HS := Lib.hid (strF_congr (cf_same HF.out h0 h1))
  have H38 := Lib.hid (show f 3 < 256 from HF.out 3 (by omega))
  have HGf := Lib.hid (show gN f < 4294967296 by have := HF.out 4 (by omega); have := HF.out 5 (by omega); have := HF.out 6 (by omega); have := HF.out 7 (by omega); unfold gN; omega)
  clear h0 h1 h2 h3
  have HP := Lib.hid h
  have HG0 := Lib.hid hg0
  have HGm := Lib.hid hgm
  have HL := Lib.hid (cfF_lt (g := g) (show k < 256 by have := h.2.1; have := h.2.2; omega) (show n < 256 by have := h.2.2; omega) hgm)
  clear h hg0 hgm
  have HN := Lib.hid hnx
  clear hnx
  clear hB hgh
  go_enter Tryd.func7, Tryd.ntmps7
  go_wp2_with fail
  refine (enc_ok k n g _ HP.out HG0.out HGm.out).mono ?_
  rintro e w1 ⟨bb, rfl, hR1, hb1⟩
  have N1 := N0.step hb1
  have F1 := F0.later hb1
  clear N0 hb1 F0
  go_wp2_with fail
  refine (dec_back k n g 8 bb _ hR1 HP.out HG0.out HGm.out).mono ?_
  rintro e w2 ⟨rfl, hb2⟩
  have F2 := (F1.later hb2).new #[.int .i64 (k : Int), .int .i64 (n : Int), .int .u32 (g : Int)] 56
  have N2 := (N1.step hb2).alloc (.cells #[.int .i64 (k : Int), .int .i64 (n : Int), .int .u32 (g : Int)] 56)
  have R2 := Row.later (hR1.later hb2) ((Below.refl _ _).alloc (Nat.le_refl _) (.cells #[.int .i64 (k : Int), .int .i64 (n : Int), .int .u32 (g : Int)] 56))
  have hE : Blk ((w2.alloc (.cells #[.int .i64 (k : Int), .int .i64 (n : Int), .int .u32 (g : Int)] 56)).alloc (.cells #[] 5)) (w2.heap.size + 1) #[] 5 := blk2' _ _ _ _ 5
  have R3 := Row.later R2 ((Below.refl _ _).alloc (Nat.le_refl _) (.cells #[] 5))
  have hG3 := Grow.empty hE (Nat.le_refl _) (fun _ => 0)
  have HG3 := Lib.hid hG3
  have HR3 := Lib.hid (R3.bytes HL.out)
  clear N1 F1 hb2 hR1 hE hG3 R2 R3
  go_wp2_with (at_builtin; refine wpList_appB rfl (.tmp 35) (.tmp 36) rfl (w2.heap.size + 1) _ 0 8 8 bb 0 (fun _ => 0) (cfF k n g) _ rfl HG3.out rfl HR3.out (by omega) ?c1 ?_)
  case c1 => simp
  intro v4 w4 hG4 hb4
  have hb4' : Below (w2.alloc (.cells #[.int .i64 (k : Int), .int .i64 (n : Int), .int .u32 (g : Int)] 56)).heap.size (w2.alloc (.cells #[.int .i64 (k : Int), .int .i64 (n : Int), .int .u32 (g : Int)] 56)) w4 := ((Below.refl _ _).alloc (Nat.le_refl _) (.cells #[] 5)).trans (by simpa using hb4)
  have hs4 : w2.heap.size + 1 ≤ w4.heap.size := by have := hb4'.size; simpa using this
  have HB4 := Lib.hid hb4'
  clear HG3 HR3 hb4 hb4'
  go_wp2_with (at_builtin; refine wpList_app8 rfl (.tmp 37) (.tmp 38) rfl (w2.heap.size + 1) v4 8 (catF 0 (fun _ => 0) (cfF k n g)) 0 w4 rfl hG4 rfl (by omega) hs4 ?_)
  intro v5 w5 hG5 hb5 _
  have hb5' : Below (w2.alloc (.cells #[.int .i64 (k : Int), .int .i64 (n : Int), .int .u32 (g : Int)] 56)).heap.size (w2.alloc (.cells #[.int .i64 (k : Int), .int .i64 (n : Int), .int .u32 (g : Int)] 56)) w5 := HB4.out.trans (by simpa using hb5)
  have N5 := N2.step hb5'
  have F5 := F2.later hb5'
  obtain ⟨oa5, cap5, rfl, hB5, _⟩ := hG5.bytes (nine_lt HL.out)
  clear N2 F2 HB4 hb5 hb5' hG4 hG5 hs4
  go_wp2_with fail
  refine (dec_len oa5 9 cap5 _ _ hB5 (by omega)).mono ?_
  rintro e w6 ⟨rfl, hb6⟩
  have F6 := (F5.later hb6).new #[.int .i64 0, .int .i64 0, .int .u32 0] 56
  have N6 := (N5.step hb6).alloc (.cells #[.int .i64 0, .int .i64 0, .int .u32 0] 56)
  clear N5 F5 hb6 hB5
  have r20 : (w6.alloc (.cells #[.int .i64 0, .int .i64 0, .int .u32 0] 56)).cell? ⟨w.heap.size + 1 + 1, 0, none⟩ = some (.int .i64 (k : Int)) := F6.cell 2 0 rfl rfl
  have r21 : (w6.alloc (.cells #[.int .i64 0, .int .i64 0, .int .u32 0] 56)).cell? ⟨w.heap.size + 1 + 1, 1, none⟩ = some (.int .i64 (n : Int)) := F6.cell 2 1 rfl rfl
  have r22 : (w6.alloc (.cells #[.int .i64 0, .int .i64 0, .int .u32 0] 56)).cell? ⟨w.heap.size + 1 + 1, 2, none⟩ = some (.int .u32 (g : Int)) := F6.cell 2 2 rfl rfl
  have r30 : (w6.alloc (.cells #[.int .i64 0, .int .i64 0, .int .u32 0] 56)).cell? ⟨w.heap.size + 1, 0, none⟩ = some (.int .i64 a) := F6.cell 3 0 rfl rfl
  have r31 : (w6.alloc (.cells #[.int .i64 0, .int .i64 0, .int .u32 0] 56)).cell? ⟨w.heap.size + 1, 1, none⟩ = some (.int .i64 b) := F6.cell 3 1 rfl rfl
  go_wp2_with fail
  refine (HN.out _).mono ?_
  rintro e w7 ⟨rfl, hb7⟩
  have F7 := (F6.later hb7).new #[.int .i64 0, .int .i64 0, .int .u32 0] 56
  have N7 := (N6.step hb7).alloc (.cells #[.int .i64 0, .int .i64 0, .int .u32 0] 56)
  clear N6 F6 hb7 r20 r21 r22 r30 r31
  have u20 : (w7.alloc (.cells #[.int .i64 0, .int .i64 0, .int .u32 0] 56)).cell? ⟨w2.heap.size, 0, none⟩ = some (.int .i64 (k : Int)) := F7.cell 2 0 rfl rfl
  have u21 : (w7.alloc (.cells #[.int .i64 0, .int .i64 0, .int .u32 0] 56)).cell? ⟨w2.heap.size, 1, none⟩ = some (.int .i64 (n : Int)) := F7.cell 2 1 rfl rfl
  have u22 : (w7.alloc (.cells #[.int .i64 0, .int .i64 0, .int .u32 0] 56)).cell? ⟨w2.heap.size, 2, none⟩ = some (.int .u32 (g : Int)) := F7.cell 2 2 rfl rfl
  have u30 : (w7.alloc (.cells #[.int .i64 0, .int .i64 0, .int .u32 0] 56)).cell? ⟨w.heap.size + 1 + 1, 0, none⟩ = some (.int .i64 (k : Int)) := F7.cell 3 0 rfl rfl
  have u31 : (w7.alloc (.cells #[.int .i64 0, .int .i64 0, .int .u32 0] 56)).cell? ⟨w.heap.size + 1 + 1, 1, none⟩ = some (.int .i64 (n : Int)) := F7.cell 3 1 rfl rfl
  have u32 : (w7.alloc (.cells #[.int .i64 0, .int .i64 0, .int .u32 0] 56)).cell? ⟨w.heap.size + 1 + 1, 2, none⟩ = some (.int .u32 (g : Int)) := F7.cell 3 2 rfl rfl
  go_wp2_with fail
  refine (num_err21 4 _ N7.handle).mono ?_
  rintro e w8 ⟨rfl, hb8⟩
  have F8 := F7.later hb8
  have N8 := N7.step hb8
  clear N7 F7 hb8 u20 u21 u22 u30 u31 u32
  have N9 := N8
  clear N8 F8
  go_wp2_with fail
  refine (dec_ok oa cp f _ (Bytes.later HBy.out N9.bel) H0.out H1.out H2.out H3.out).mono ?_
  rintro e wb ⟨rfl, hbb⟩
  have Nb := (N9.step hbb).alloc (.cells #[.int .i64 (f 2 : Nat), .int .i64 (f 3 : Nat), .int .u32 (gN f : Nat)] 56)
  clear N9 hbb
  go_wp2_with fail
  refine (enc_ok (f 2) (f 3) (gN f) _ H2.out (Nat.pos_of_ne_zero H3.out) HGf.out).mono ?_
  rintro e wc ⟨bc, rfl, hRc, hbc⟩
  have Nc := Nb.step hbc
  have hy := (Ts.row (cp := 8) hRc (cfF_lt (show f 2 < 256 from HF.out 2 (by omega)) H38.out HGf.out)).conv
  have hBc := Bytes.later HBy.out Nc.bel
  obtain ⟨_, b0, o0, rfl, _⟩ := hBc 0 (by omega)
  have hz : (convert 31 9 (.slice (some ⟨b0, o0, none⟩) 8 cp)).run Tryd.prog wc = .ok (.string (strF 8 f)) wc := Bytes.conv hBc
  rw [HS.out] at hy
  generalize strF 8 f = s at *
  clear Nb hbc hRc hBc
  go_wp2_with fail
  refine (sure21_any _ Nc.handle).mono ?_
  rintro e wd ⟨rfl, hbd⟩
  have Nd := Nc.step hbd
  go_wp2_with fail
  go_ret
  exact ⟨rfl, Nd.bel⟩
theorem back_any (k n g a b : Int) (oa : Option Addr) (nb cp : Nat) (f : Nat → Nat) (w : World) (hgh : Handle w) (hgg : 0 ≤ g ∧ g ≤ 4294967295) (hB : Bytes w oa nb f) :
    Calls Tryd.prog 7 #[.agg #[.int .i64 k, .int .i64 n, .int .u32 g], .agg #[.int .i64 a, .int .i64 b], .slice oa nb cp] w fun e w' => e = .returned (.bool true) ∧ Below w.heap.size w w' := by
  by_cases hp : OkP k n ∧ g ≠ 0
  · obtain ⟨h, h0⟩ := hp
    obtain ⟨k, rfl⟩ := Int.eq_ofNat_of_zero_le (show 0 ≤ k by have := h.1; omega)
    obtain ⟨n, rfl⟩ := Int.eq_ofNat_of_zero_le (show 0 ≤ n by have := h.1; have := h.2.1; omega)
    obtain ⟨g, rfl⟩ := Int.eq_ofNat_of_zero_le hgg.1
    have hg0 : 0 < g := by omega
    have hg1 : g < 4294967296 := by have := hgg.2; omega
    by_cases hd : DOk nb f
    · obtain ⟨rfl, d0, d1, d2, d3⟩ := hd
      by_cases ho : OkP a b
      · by_cases hm : g < 4294967295
        · exact back_oo k n g a b oa cp f w hgh hB h hg0 hg1 ho hm d0 d1 d2 d3
        · exact back_eo k n g a b oa cp f w hgh hB h hg0 hg1 7 (fun w => next_max _ _ _ a b w h ho (by omega)) d0 d1 d2 d3
      · exact back_eo k n g a b oa cp f w hgh hB h hg0 hg1 1 (fun w => next_nop _ _ _ a b w h (by omega) ho) d0 d1 d2 d3
    · by_cases ho : OkP a b
      · by_cases hm : g < 4294967295
        · exact back_on k n g a b oa nb cp f w hgh hB h hg0 hg1 ho hm hd
        · exact back_en k n g a b oa nb cp f w hgh hB h hg0 hg1 7 (fun w => next_max _ _ _ a b w h ho (by omega)) hd
      · exact back_en k n g a b oa nb cp f w hgh hB h hg0 hg1 1 (fun w => next_nop _ _ _ a b w h (by omega) ho) hd
  · by_cases hd : DOk nb f
    · obtain ⟨rfl, d0, d1, d2, d3⟩ := hd
      exact back_no k n g a b oa cp f w hgh hB hgg.1 hp d0 d1 d2 d3
    · exact back_nn k n g a b oa nb cp f w hgh hB hgg.1 hp hd
end Go.Proofs.YtkaddilgegimjaaDoor
