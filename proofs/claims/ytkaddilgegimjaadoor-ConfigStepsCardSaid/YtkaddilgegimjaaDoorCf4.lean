/- What layer 21's laws ask of whatever input; the functions of layer 21, beside the document's. -/
import Derived.Test.YtkaddilgegimjaaDoorCf3
import Derived.Deep.DeepCutAuto
import Derived.Laws.StructEq
namespace Go.Proofs.YtkaddilgegimjaaDoor
set_option linter.unusedVariables false
set_option linter.unusedSimpArgs false
open Go.RowKit

/-- An error, by its number; 0: none. -/
def Er (v : Value) (n : Int) : Prop := (n = 0 ∧ v = .nilIface) ∨ v = .iface 146 (.int .i64 n)
theorem num_er {v : Value} {n : Int} {w0 w : World} (h : Er v n) (hN : Wn w0 w) :
    Calls Tryd.prog 37 #[v] w fun e w' => e = .returned (.int .i64 n) ∧ Below w.heap.size w w' := by
  rcases h with ⟨rfl, rfl⟩ | rfl
  · exact num_nil21 w
  · exact num_err21 n w hN.handle

/-- A row of bytes, told as a string. -/
def Ts (v : Value) (s : ByteArray) (w : World) : Prop := (v = .slice none 0 0 ∧ s = strF 0 (fun _ => 0)) ∨ ∃ b off n cp F, v = .slice (some ⟨b, off, none⟩) n cp ∧ Bytes w (some ⟨b, off, none⟩) n F ∧ strF n F = s
theorem Ts.conv {v : Value} {s : ByteArray} {w : World} (h : Ts v s w) : (convert 31 9 v).run Tryd.prog w = .ok (.string s) w := by
  rcases h with ⟨rfl, rfl⟩ | ⟨b, off, n, cp, F, rfl, hB, rfl⟩
  · kernel_rfl
  · exact hB.conv
theorem Ts.later {v : Value} {s : ByteArray} {w w' : World} (h : Ts v s w) (hb : Below w.heap.size w w') : Ts v s w' := by
  rcases h with h | ⟨b, off, n, cp, F, hv, hB, hs⟩
  · exact .inl h
  · exact .inr ⟨b, off, n, cp, F, hv, hB.later hb, hs⟩
theorem Ts.row {w : World} {g n cp : Nat} {F : Nat → Nat} (h : Row w g n F) (hf : ∀ i, i < n → F i < 256) : Ts (.slice (some ⟨g, 0, none⟩) n cp) (strF n F) w := .inr ⟨g, 0, n, cp, F, rfl, h.bytes hf, rfl⟩

set_option maxRecDepth 100000 in
set_option maxHeartbeats 2000000 in
theorem sure21_any (w : World) (h : Handle w) :
    Calls Tryd.prog 28 #[] w fun e w' => e = .returned (.bool true) ∧ Below w.heap.size w w' := by
  have h35 := Lib.hid (show OkP 3 5 by unfold OkP; omega)
  have h22 := Lib.hid (show OkP 2 2 by unfold OkP; omega)
  have h15 := Lib.hid (show ¬ OkP 1 5 by unfold OkP; omega)
  go_enter Tryd.func28, Tryd.ntmps28
  go_wp2_with fail
  refine (new_ok 3 5 _ h35.out).mono ?_
  rintro e w1 ⟨rfl, hb1⟩
  have F1 := (Fr.nil w1).new #[.int .i64 3, .int .i64 5, .int .u32 1] 56
  have N1 := (Wn.step (Wn.new h) hb1).alloc (.cells #[.int .i64 3, .int .i64 5, .int .u32 1] 56)
  clear hb1
  go_wp2_with fail
  refine (enc_ok 3 5 1 _ h35.out (by decide) (by decide)).mono ?_
  rintro e w2 ⟨bb, rfl, hR, hb2⟩
  have F2 := F1.later hb2
  have N2 := N1.step hb2
  have c0 : w2.cell? ⟨w1.heap.size, 0, none⟩ = some (.int .i64 3) := F2.cell 0 0 rfl rfl
  have c1 : w2.cell? ⟨w1.heap.size, 1, none⟩ = some (.int .i64 5) := F2.cell 0 1 rfl rfl
  have c2 : w2.cell? ⟨w1.heap.size, 2, none⟩ = some (.int .u32 1) := F2.cell 0 2 rfl rfl
  clear F1 N1 hb2
  go_wp2_with fail
  refine (next_ok 3 5 1 2 2 _ h35.out h22.out (by decide) (by decide)).mono ?_
  rintro e w3 ⟨rfl, hb3⟩
  rw [show (1 : Int) + 1 = 2 from rfl]
  have F3 := (F2.later hb3).new #[.int .i64 2, .int .i64 2, .int .u32 2] 56
  have N3 := (N2.step hb3).alloc (.cells #[.int .i64 2, .int .i64 2, .int .u32 2] 56)
  have R3 := Row.later (hR.later hb3) ((Below.refl _ _).alloc (Nat.le_refl _) (.cells #[.int .i64 2, .int .i64 2, .int .u32 2] 56))
  clear F2 N2 hb3 hR c0 c1 c2
  go_wp2_with fail
  refine (new_no 1 5 _ h15.out).mono ?_
  rintro e w4 ⟨rfl, hb4⟩
  have F4 := (F3.later hb4).new #[.int .i64 0, .int .i64 0, .int .u32 0] 56
  have N4 := (N3.step hb4).alloc (.cells #[.int .i64 0, .int .i64 0, .int .u32 0] 56)
  have R4 := Row.later (R3.later hb4) ((Below.refl _ _).alloc (Nat.le_refl _) (.cells #[.int .i64 0, .int .i64 0, .int .u32 0] 56))
  have hcv : (convert 31 9 (.slice (some ⟨bb, 0, none⟩) 8 8)).run Tryd.prog (w4.alloc (.cells #[.int .i64 0, .int .i64 0, .int .u32 0] 56)) = .ok (.string ⟨#[99, 102, 3, 5, 0, 0, 0, 1]⟩) (w4.alloc (.cells #[.int .i64 0, .int .i64 0, .int .u32 0] 56)) := by
    have hh := (Ts.row (cp := 8) R4 (cfF_lt (by decide) (by decide) (by decide))).conv
    rw [show strF 8 (cfF 3 5 1) = ⟨#[99, 102, 3, 5, 0, 0, 0, 1]⟩ from by kernel_rfl] at hh
    exact hh
  have d2 : (w4.alloc (.cells #[.int .i64 0, .int .i64 0, .int .u32 0] 56)).cell? ⟨w3.heap.size, 2, none⟩ = some (.int .u32 2) := F4.cell 1 2 rfl rfl
  clear F3 N3 hb4 R3 F4 R4
  go_wp2_with fail
  refine (num_err21 1 _ N4.handle).mono ?_
  rintro e w5 ⟨rfl, hb5⟩
  go_wp2_with fail
  go_ret
  exact ⟨rfl, (N4.step hb5).bel⟩

/-- Both ways to tell a config give the same bytes, or the same error. -/
theorem enc_both (k n g : Int) (hg : 0 ≤ g ∧ g ≤ 4294967295) : ∃ s m,
    (∀ w, Calls Tryd.prog 29 #[.agg #[.int .i64 k, .int .i64 n, .int .u32 g]] w fun e w' => ∃ v ev, e = .returned (.tuple #[v, ev]) ∧ Ts v s w' ∧ Er ev m ∧ Below w.heap.size w w') ∧
    (∀ w, Calls Tryd.prog 30 #[.agg #[.int .i64 k, .int .i64 n, .int .u32 g]] w fun e w' => ∃ v, e = .returned (.tuple #[v, .int .i64 m]) ∧ Ts v s w' ∧ Below w.heap.size w w') := by
  by_cases h : OkP k n ∧ g ≠ 0
  · obtain ⟨h, h0⟩ := h
    obtain ⟨k, rfl⟩ := Int.eq_ofNat_of_zero_le (show 0 ≤ k by have := h.1; omega)
    obtain ⟨n, rfl⟩ := Int.eq_ofNat_of_zero_le (show 0 ≤ n by have := h.1; have := h.2.1; omega)
    obtain ⟨g, rfl⟩ := Int.eq_ofNat_of_zero_le hg.1
    have hl : ∀ i, i < 8 → cfF k n g i < 256 := cfF_lt (by have := h.2.1; have := h.2.2; omega) (by have := h.2.2; omega) (by have := hg.2; omega)
    exact ⟨strF 8 (cfF k n g), 0, fun w => (enc_ok k n g w h (by omega) (by have := hg.2; omega)).mono fun e w' ⟨b, he, hR, hb⟩ => ⟨_, _, he, Ts.row hR hl, .inl ⟨rfl, rfl⟩, hb⟩,
      fun w => (renc_ok k n g w h (by omega) (by have := hg.2; omega)).mono fun e w' ⟨b, he, hR, hb⟩ => ⟨_, he, Ts.row hR hl, hb⟩⟩
  · exact ⟨strF 0 (fun _ => 0), 1, fun w => (enc_no k n g w h hg.1).mono fun e w' ⟨he, hb⟩ => ⟨_, _, he, .inl ⟨rfl, rfl⟩, .inr rfl, hb⟩,
      fun w => (renc_no k n g w h hg.1).mono fun e w' ⟨he, hb⟩ => ⟨_, he, .inl ⟨rfl, rfl⟩, hb⟩⟩
theorem next_both (k n g a b : Int) (hg : 0 ≤ g ∧ g ≤ 4294967295) : ∃ x y z m,
    (∀ w, Calls Tryd.prog 31 #[.agg #[.int .i64 k, .int .i64 n, .int .u32 g], .int .i64 a, .int .i64 b] w fun e w' => ∃ ev, e = .returned (.tuple #[.agg #[.int .i64 x, .int .i64 y, .int .u32 z], ev]) ∧ Er ev m ∧ Below w.heap.size w w') ∧
    (∀ w, Calls Tryd.prog 32 #[.agg #[.int .i64 k, .int .i64 n, .int .u32 g], .int .i64 a, .int .i64 b] w fun e w' => e = .returned (.tuple #[.agg #[.int .i64 x, .int .i64 y, .int .u32 z], .int .i64 m]) ∧ Below w.heap.size w w') := by
  by_cases h : OkP k n ∧ g ≠ 0
  · obtain ⟨h, h0⟩ := h
    by_cases hp : OkP a b
    · by_cases hm : g = 4294967295
      · exact ⟨0, 0, 0, 7, fun w => (next_max k n g a b w h hp hm).mono fun e w' ⟨he, hb⟩ => ⟨_, he, .inr rfl, hb⟩, fun w => rnext_max k n g a b w h hp hm⟩
      · exact ⟨a, b, g + 1, 0, fun w => (next_ok k n g a b w h hp (by omega) (by omega)).mono fun e w' ⟨he, hb⟩ => ⟨_, he, .inl ⟨rfl, rfl⟩, hb⟩, fun w => rnext_ok k n g a b w h hp (by omega) (by omega)⟩
    · exact ⟨0, 0, 0, 1, fun w => (next_nop k n g a b w h h0 hp).mono fun e w' ⟨he, hb⟩ => ⟨_, he, .inr rfl, hb⟩, fun w => rnext_nop k n g a b w h (by omega) hp⟩
  · exact ⟨0, 0, 0, 1, fun w => (next_noc k n g a b w h).mono fun e w' ⟨he, hb⟩ => ⟨_, he, .inr rfl, hb⟩, fun w => rnext_noc k n g a b w h hg.1⟩
theorem dec_both (oa : Option Addr) (n cp : Nat) (f : Nat → Nat) : ∃ x y z m,
    (∀ w, Bytes w oa n f → Calls Tryd.prog 33 #[.slice oa n cp] w fun e w' => ∃ ev, e = .returned (.tuple #[.agg #[.int .i64 x, .int .i64 y, .int .u32 z], ev]) ∧ Er ev m ∧ Below w.heap.size w w') ∧
    (∀ w, Bytes w oa n f → Calls Tryd.prog 34 #[.slice oa n cp] w fun e w' => e = .returned (.tuple #[.agg #[.int .i64 x, .int .i64 y, .int .u32 z], .int .i64 m]) ∧ Below w.heap.size w w') := by
  by_cases h8 : n = 8
  · by_cases h0 : f 0 = 99
    · by_cases h1 : f 1 = 102
      · subst h8
        by_cases h : OkP (f 2) (f 3) ∧ ((gN f : Nat) : Int) ≠ 0
        · exact ⟨(f 2 : Nat), (f 3 : Nat), (gN f : Nat), 0, fun w hb => (dec_ok oa cp f w hb h0 h1 h.1 (by have := h.2; omega)).mono fun e w' ⟨he, hb⟩ => ⟨_, he, .inl ⟨rfl, rfl⟩, hb⟩, fun w hb => rdec_ok oa cp f w hb h0 h1 h.1 (by have := h.2; omega)⟩
        · exact ⟨0, 0, 0, 4, fun w hb => (dec_no oa cp f w hb h0 h1 h).mono fun e w' ⟨he, hb⟩ => ⟨_, he, .inr rfl, hb⟩, fun w hb => rdec_no oa cp f w hb h0 h1 h⟩
      · exact ⟨0, 0, 0, 4, fun w hb => (dec_m1 oa n cp f w hb h8 h0 h1).mono fun e w' ⟨he, hb⟩ => ⟨_, he, .inr rfl, hb⟩, fun w hb => rdec_m1 oa n cp f w hb h8 h0 h1⟩
    · exact ⟨0, 0, 0, 4, fun w hb => (dec_m0 oa n cp f w hb h8 h0).mono fun e w' ⟨he, hb⟩ => ⟨_, he, .inr rfl, hb⟩, fun w hb => rdec_m0 oa n cp f w hb h8 h0⟩
  · exact ⟨0, 0, 0, 4, fun w hb => (dec_len oa n cp f w hb h8).mono fun e w' ⟨he, hb⟩ => ⟨_, he, .inr rfl, hb⟩, fun w hb => rdec_len oa n cp f w hb h8⟩
end Go.Proofs.YtkaddilgegimjaaDoor
