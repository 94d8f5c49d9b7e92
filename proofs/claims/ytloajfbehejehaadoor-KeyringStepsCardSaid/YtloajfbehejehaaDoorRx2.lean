/- A key for a use, as the document makes it. -/
import Derived.Test.YtloajfbehejehaaDoorRx1
namespace Go.Proofs.YtloajfbehejehaaDoor
set_option linter.unusedVariables false
set_option linter.unusedSimpArgs false
open Go.RowKit

set_option maxRecDepth 100000 in
set_option maxHeartbeats 2000000 in
theorem rkey_bad (oa : Option Addr) (n cn : Nat) (s : ByteArray) (x : Value) (w : World) (hn : n ≤ 9223372036854775807) (hs : s.size ≤ 9223372036854775807) (hz : n ≠ 32 ∨ s.size < 1 ∨ 32 < s.size) :
    Calls Tryd.prog 27 #[.slice oa n cn, .string s, x] w fun e w' => e = .returned (.tuple #[.slice none 0 0, .int .i64 1]) ∧ w' = w := by
  go_enter Tryd.func27, Tryd.ntmps27
  have hcs : n ≠ 32 ∨ (n = 32 ∧ (s.size : Int) < 1) ∨ (n = 32 ∧ ¬ (s.size : Int) < 1 ∧ (32 : Int) < (s.size : Int)) := by omega
  rcases hcs with h3 | ⟨rfl, h4⟩ | ⟨rfl, h4, h5⟩
  · have h6 : ¬ (n : Int) = 32 := by omega
    go_wp2_with fail
    go_ret2
    exact ⟨rfl, rfl⟩
  · go_wp2_with fail
    go_ret2
    exact ⟨rfl, rfl⟩
  · go_wp2_with fail
    go_ret2
    exact ⟨rfl, rfl⟩
theorem catz {n : Nat} {f g : Nat → Nat} (m : Nat) : ∀ i, i < m → catF (0 + n) (catF 0 (fun _ => 0) f) g i = catF n f g i := fun i _ => by
  have e : catF 0 (fun _ => 0) f = f := funext fun i => by unfold catF; rw [if_neg (Nat.not_lt_zero i), Nat.sub_zero]
  rw [e, Nat.zero_add]
set_option maxRecDepth 100000 in
set_option maxHeartbeats 4000000 in
theorem rkey_any (oa : Option Addr) (cn : Nat) (K : Nat → Nat) (s : ByteArray) (x : Nat) (w : World) (hb : Bytes w oa 32 K) (hs1 : 1 ≤ s.size) (hs2 : s.size ≤ 32) (hx : x < 4294967296) :
    Calls Tryd.prog 27 #[.slice oa 32 cn, .string s, .int .u32 (x : Int)] w fun e w' => ∃ o c, e = .returned (.tuple #[.slice o 32 c, .int .i64 0]) ∧ Bytes w' o 32 (exF 32 K (s.size + 5) (kiF s x)) ∧ Below w.heap.size w w' := by
  have HKB : Hid (∀ w', Below w.heap.size w w' → Bytes w' oa 32 K) := Lib.hid fun w' h => hb.later h
  have HNO : Hid (oa = none → 32 = 0) := Lib.hid fun e => by obtain ⟨_, b, off, e2, _⟩ := hb 0 (by decide); rw [e] at e2; cases e2
  have HS : Hid (1 ≤ s.size ∧ s.size ≤ 32) := Lib.hid ⟨hs1, hs2⟩
  have h4 : ¬ (s.size : Int) < 1 := by omega
  have h5 : ¬ (32 : Int) < (s.size : Int) := by omega
  obtain ⟨b0, hd0⟩ : ∃ y, x / 16777216 = y := ⟨_, rfl⟩
  obtain ⟨d1, hd1⟩ : ∃ y, x / 65536 = y := ⟨_, rfl⟩
  obtain ⟨d2, hd2⟩ : ∃ y, x / 256 = y := ⟨_, rfl⟩
  obtain ⟨b1, hb1⟩ : ∃ y, d1 % 256 = y := ⟨_, rfl⟩
  obtain ⟨b2, hb2⟩ : ∃ y, d2 % 256 = y := ⟨_, rfl⟩
  obtain ⟨b3, hb3⟩ : ∃ y, x % 256 = y := ⟨_, rfl⟩
  have e0 : numB x 4 0 = b0 := by show x / 16777216 % 256 = b0; omega
  have e1 : numB x 4 1 = b1 := by show x / 65536 % 256 = b1; omega
  have e2 : numB x 4 2 = b2 := by show x / 256 % 256 = b2; omega
  have e3 : numB x 4 3 = b3 := by show x / 1 % 256 = b3; omega
  have H5 : Hid (∀ w', Bytes (World.alloc w' (.cells #[.int .u8 0, .int .u8 (b0 : Nat), .int .u8 (b1 : Nat), .int .u8 (b2 : Nat), .int .u8 (b3 : Nat)] 5)) (some ⟨w'.heap.size, 0, none⟩) 5 (kTl x)) := Lib.hid fun w' => five_bytes e0 e1 e2 e3
  have q0 : (x : Int).tdiv 16777216 = (b0 : Int) := tdk rfl hd0
  have q1 : (x : Int).tdiv 65536 = (d1 : Int) := tdk rfl hd1
  have q2 : (x : Int).tdiv 256 = (d2 : Int) := tdk rfl hd2
  have r1 : (d1 : Int).tmod 256 = (b1 : Int) := tmk rfl hb1
  have r2 : (d2 : Int).tmod 256 = (b2 : Int) := tmk rfl hb2
  have r3 : (x : Int).tmod 256 = (b3 : Int) := tmk rfl hb3
  have q5 : (x : Int) / 16777216 = (b0 : Int) := by omega
  have q6 : (x : Int) / 65536 = (d1 : Int) := by omega
  have q7 : (x : Int) / 256 = (d2 : Int) := by omega
  have r5 : (d1 : Int) % 256 = (b1 : Int) := by omega
  have r6 : (d2 : Int) % 256 = (b2 : Int) := by omega
  have r7 : (x : Int) % 256 = (b3 : Int) := by omega
  have w0 : IntKind.u32.wrap (b0 : Int) = (b0 : Int) := by rw [IntKind.wrap_u32]; omega
  have w1 : IntKind.u32.wrap (d1 : Int) = (d1 : Int) := by rw [IntKind.wrap_u32]; omega
  have w2 : IntKind.u32.wrap (d2 : Int) = (d2 : Int) := by rw [IntKind.wrap_u32]; omega
  have w3 : (b0 : Int) % 4294967296 = (b0 : Int) := by omega
  have w4 : (d1 : Int) % 4294967296 = (d1 : Int) := by omega
  have w5 : (d2 : Int) % 4294967296 = (d2 : Int) := by omega
  have w6 : (b1 : Int) % 4294967296 = (b1 : Int) := by omega
  have w7 : (b2 : Int) % 4294967296 = (b2 : Int) := by omega
  have w8 : (b3 : Int) % 4294967296 = (b3 : Int) := by omega
  have s0 : (b0 : Int) % 256 = (b0 : Int) := by omega
  have s1 : (b1 : Int) % 256 = (b1 : Int) := by omega
  have s2 : (b2 : Int) % 256 = (b2 : Int) := by omega
  have s3 : (b3 : Int) % 256 = (b3 : Int) := by omega
  have HJ0 : Hid (JG w (.slice none 0 0) 0 (fun _ => 0) w) := Lib.hid ⟨Grow.nil _ _ _, Below.refl _ _⟩
  clear hb hs1 hs2 hx e0 e1 e2 e3 hd0 hd1 hd2 hb1 hb2 hb3
  go_enter Tryd.func27, Tryd.ntmps27
  go_wp2_with (first
    | (refine wpList_convS rfl (.tmp 23) rfl s w rfl (by have := HS.out; unfold maxLen; omega) ?_; intro cap v1 hcm1 hs1' hb1'; have HB1 := Lib.hid hs1'.bytes; have HJ1 := Lib.hid (HJ0.out.later hb1'); clear hcm1 hs1' hb1')
    | (refine wpList_appO rfl (.tmp 22) (.tmp 24) rfl w.heap.size (.slice none 0 0) 0 s.size cap (some ⟨w.heap.size, 0, none⟩) (fun _ => 0) (byteF s) v1 rfl HJ1.out.g rfl (fun h => by cases h) HB1.out (by have := HS.out; omega) HJ1.out.o.size ?_; intro va v2 hG2 hg2 hob2; have HJ2 := Lib.hid ((HJ1.out.grew hg2 hG2).later ((Below.refl _ _).alloc (Nat.le_refl _) (.cells #[.int .u8 0, .int .u8 (b0 : Nat), .int .u8 (b1 : Nat), .int .u8 (b2 : Nat), .int .u8 (b3 : Nat)] 5))); clear hG2 hg2 hob2)
    | (refine wpList_appO rfl (.tmp 26) (.tmp 41) rfl w.heap.size va (0 + s.size) 5 5 (some ⟨v2.heap.size, 0, none⟩) (catF 0 (fun _ => 0) (byteF s)) (kTl x) (v2.alloc (.cells #[.int .u8 0, .int .u8 (b0 : Nat), .int .u8 (b1 : Nat), .int .u8 (b2 : Nat), .int .u8 (b3 : Nat)] 5)) rfl HJ2.out.g rfl (fun h => by cases h) (H5.out v2) (by have := HS.out; omega) HJ2.out.o.size ?_; intro vb v3 hG3 hg3 hob3; have HJ3 : Hid (JG w vb (s.size + 5) (kiF s x) v3) := Lib.hid (by have hh := HJ2.out.grew hg3 (hG3.congr (catz (n := s.size) (f := byteF s) (g := kTl x) (0 + s.size + 5))); rw [Nat.zero_add] at hh; exact hh); clear hG3 hg3 hob3))
  obtain ⟨o3, c3, hv3, hB3, hc3, hn3⟩ := HJ3.out.g.bytesC (by
    intro i hi
    show catF s.size (byteF s) (kTl x) i < 256
    unfold catF
    split
    · exact byteF_lt _ _
    · exact kTl_lt _ _)
  subst hv3
  have H3 : Hid (Bytes v3 o3 (s.size + 5) (kiF s x) ∧ (o3 = none → s.size + 5 = 0) ∧ Below w.heap.size w v3) := Lib.hid ⟨hB3, hn3, HJ3.out.o⟩
  clear hB3 hc3 hn3 HJ0 HJ1 HJ2 HJ3 HB1 H5 q0 q1 q2 r1 r2 r3 q5 q6 q7 r5 r6 r7 w0 w1 w2 w3 w4 w5 w6 w7 w8 s0 s1 s2 s3
  have hEX : Calls Tryd.prog 34 #[.slice oa 32 cn, .slice o3 (s.size + 5) c3, .int .i64 32] v3 _ := rexpand_any oa o3 32 cn (s.size + 5) c3 K (kiF s x) 32 v3 (HKB.out _ H3.out.2.2) HNO.out (by decide) H3.out.1 H3.out.2.1 (by have := HS.out; omega) (by decide)
  refine hEX.mono ?_
  rintro e v4 ⟨o, c, rfl, hB4, hn4, hb4⟩
  have H4 : Hid (Bytes v4 o 32 (exF 32 K (s.size + 5) (kiF s x)) ∧ Below w.heap.size w v4) := Lib.hid ⟨hB4, H3.out.2.2.trans (hb4.mono H3.out.2.2.size)⟩
  clear hB4 hn4 hb4 H3 hEX
  go_wp2_with fail
  go_ret2
  exact ⟨o, c, rfl, H4.out.1, H4.out.2⟩
end Go.Proofs.YtloajfbehejehaaDoor
