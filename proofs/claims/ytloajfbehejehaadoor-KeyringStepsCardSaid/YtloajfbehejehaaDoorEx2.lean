/- A key for a use; a key out of anything; as the program makes them. -/
import Derived.Test.YtloajfbehejehaaDoorEx1
import Derived.Test.YtloajfbehejehaaDoorStB
namespace Go.Proofs.YtloajfbehejehaaDoor
set_option linter.unusedVariables false
set_option linter.unusedSimpArgs false
open Go.RowKit

def kTl (x : Nat) : Nat → Nat := fun i => if i = 0 then 0 else numB x 4 (i - 1)
/-- What a key for a use is made with. -/
def kiF (s : ByteArray) (x : Nat) : Nat → Nat := catF s.size (byteF s) (kTl x)
theorem kTl_lt (x i : Nat) : kTl x i < 256 := by
  unfold kTl; split
  · decide
  · exact numB_lt _ _ _
theorem hmN_zero (K K' : Nat → Nat) (m : Nat) (G : Nat → Nat) (hK : ∀ i, i < 32 → K' i = 0) : hmN 32 K' m G = hmN 0 K m G := by
  have e : whK 32 K' = whK 0 K := funext fun i => by
    unfold whK
    have h1 : ¬ 64 < 32 := by decide
    have h2 : ¬ 64 < 0 := by decide
    rw [if_neg h1, if_neg h2, if_neg (Nat.not_lt_zero i)]
    split
    · exact hK i ‹_›
    · rfl
  unfold hmN; rw [e]
theorem five_bytes {w : World} {x b0 b1 b2 b3 : Nat} (h0 : numB x 4 0 = b0) (h1 : numB x 4 1 = b1) (h2 : numB x 4 2 = b2) (h3 : numB x 4 3 = b3) : Bytes (w.alloc (.cells #[.int .u8 0, .int .u8 (b0 : Nat), .int .u8 (b1 : Nat), .int .u8 (b2 : Nat), .int .u8 (b3 : Nat)] 5)) (some ⟨w.heap.size, 0, none⟩) 5 (kTl x) := fun k hk => by
  subst h0 h1 h2 h3
  have hc := fun j => World.cell?_alloc_mark w #[.int .u8 0, .int .u8 ((numB x 4 0 : Nat) : Int), .int .u8 ((numB x 4 1 : Nat) : Int), .int .u8 ((numB x 4 2 : Nat) : Int), .int .u8 ((numB x 4 3 : Nat) : Int)] 5 (0, 0) j
  rcases (by omega : k = 0 ∨ k = 1 ∨ k = 2 ∨ k = 3 ∨ k = 4) with rfl | rfl | rfl | rfl | rfl
  · exact ⟨kTl_lt _ _, w.heap.size, 0, rfl, hc 0⟩
  · exact ⟨kTl_lt _ _, w.heap.size, 0, rfl, hc 1⟩
  · exact ⟨kTl_lt _ _, w.heap.size, 0, rfl, hc 2⟩
  · exact ⟨kTl_lt _ _, w.heap.size, 0, rfl, hc 3⟩
  · exact ⟨kTl_lt _ _, w.heap.size, 0, rfl, hc 4⟩
set_option maxRecDepth 100000 in
set_option maxHeartbeats 2000000 in
theorem key_bad (oa : Option Addr) (n cn : Nat) (s : ByteArray) (x : Value) (w : World) (hn : n ≤ 9223372036854775807) (hs : s.size ≤ 9223372036854775807) (hz : n ≠ 32 ∨ s.size < 1 ∨ 32 < s.size) :
    Calls Tryd.prog 26 #[.slice oa n cn, .string s, x] w fun e w' => e = .returned (.tuple #[.slice none 0 0, .iface 64 (.int .i64 1)]) ∧ w' = w := by
  go_enter Tryd.func26, Tryd.ntmps26
  have hcs : n ≠ 32 ∨ (n = 32 ∧ (s.size : Int) < 1) ∨ (n = 32 ∧ ¬ (s.size : Int) < 1 ∧ (32 : Int) < (s.size : Int)) := by omega
  rcases hcs with h3 | ⟨rfl, h4⟩ | ⟨rfl, h4, h5⟩
  · have h6 : ¬ (n : Int) = 32 := by omega
    go_wp2_with fail
    go_ret2
    exact ⟨rfl, rfl⟩
  · go_wp2_with fail
    go_ret2
    exact ⟨rfl, rfl⟩
  · go_wp2_with fail
    go_ret2
    exact ⟨rfl, rfl⟩
set_option maxRecDepth 100000 in
set_option maxHeartbeats 4000000 in
theorem key_any (oa : Option Addr) (cn : Nat) (K : Nat → Nat) (s : ByteArray) (x : Nat) (w : World) (hb : Bytes w oa 32 K) (hnc : 32 ≤ cn) (hs1 : 1 ≤ s.size) (hs2 : s.size ≤ 32) (hx : x < 4294967296) (hg : GV w) :
    Calls Tryd.prog 26 #[.slice oa 32 cn, .string s, .int .u32 (x : Int)] w fun e w' => ∃ o, e = .returned (.tuple #[.slice o 32 32, .nilIface]) ∧ Bytes w' o 32 (exF 32 K (s.size + 5) (kiF s x)) ∧ Below w.heap.size w w' := by
  have HKB : Hid (∀ w', Below w.heap.size w w' → Bytes w' oa 32 K) := Lib.hid fun w' h => hb.later h
  have HS : Hid (1 ≤ s.size ∧ s.size ≤ 32 ∧ 32 ≤ cn) := Lib.hid ⟨hs1, hs2, hnc⟩
  have HG := Lib.hid hg
  have h4 : ¬ (s.size : Int) < 1 := by omega
  have h5 : ¬ (32 : Int) < (s.size : Int) := by omega
  obtain ⟨b0, e0⟩ : ∃ y, numB x 4 0 = y := ⟨_, rfl⟩
  obtain ⟨b1, e1⟩ : ∃ y, numB x 4 1 = y := ⟨_, rfl⟩
  obtain ⟨b2, e2⟩ : ∃ y, numB x 4 2 = y := ⟨_, rfl⟩
  obtain ⟨b3, e3⟩ : ∃ y, numB x 4 3 = y := ⟨_, rfl⟩
  have v0 := num4 x 0 16777216 (by decide) (by decide)
  have v1 := num4 x 1 65536 (by decide) (by decide)
  have v2 := num4 x 2 256 (by decide) (by decide)
  have v3 := num4 x 3 1 (by decide) (by decide)
  rw [e0] at v0
  rw [e1] at v1
  rw [e2] at v2
  rw [e3] at v3
  rw [show (((1 : Nat) : Int)) = 1 from rfl, Int.ediv_one] at v3
  rw [show (((16777216 : Nat) : Int)) = 16777216 from rfl] at v0
  rw [show (((65536 : Nat) : Int)) = 65536 from rfl] at v1
  rw [show (((256 : Nat) : Int)) = 256 from rfl] at v2
  have v4 : (x : Int) / 16777216 = (b0 : Int) := by rw [← v0]; omega
  have v5 : (b0 : Int) % 256 = (b0 : Int) := by omega
  have x0 : (x : Int) < 4294967296 := by omega
  have x1 : (x : Int) % 4294967296 = (x : Int) := by omega
  have H5 : Hid (∀ w', Bytes (World.alloc w' (.cells #[.int .u8 0, .int .u8 (b0 : Nat), .int .u8 (b1 : Nat), .int .u8 (b2 : Nat), .int .u8 (b3 : Nat)] 5)) (some ⟨w'.heap.size, 0, none⟩) 5 (kTl x)) := Lib.hid fun w' => five_bytes e0 e1 e2 e3
  clear hb hnc hs1 hs2 hx hg e0 e1 e2 e3
  go_enter Tryd.func26, Tryd.ntmps26
  go_wp2_with (first
    | (refine wpList_convS rfl (.tmp 23) rfl s w rfl (by have := HS.out; unfold maxLen; omega) ?_; intro cap w1 hcm1 hs1 hb1; have H1 := Lib.hid (And.intro hcm1 (And.intro hs1 hb1)); clear hcm1 hs1 hb1)
    | (refine wpList_appS rfl (.tmp 24) (.tmp 36) rfl w.heap.size s.size cap 5 5 ⟨w1.heap.size, 0, none⟩ (byteF s) (kTl x) (w1.alloc (.cells #[.int .u8 0, .int .u8 (b0 : Nat), .int .u8 (b1 : Nat), .int .u8 (b2 : Nat), .int .u8 (b3 : Nat)] 5)) rfl (H1.out.2.1.later ((Below.refl _ _).alloc (Nat.le_refl _) _)) H1.out.1 rfl (H5.out w1) (by have := HS.out; omega) ?_
       intro o' c' w2 hc2 hB2 hO2
       have H2 : Hid (s.size + 5 ≤ c' ∧ Bytes w2 (some o') (s.size + 5) (kiF s x) ∧ Below w.heap.size w w2) := Lib.hid ⟨hc2, hB2, (H1.out.2.2.trans (((Below.refl _ _).alloc (Nat.le_refl _) _).mono H1.out.2.2.size)).trans (hO2.below (Nat.le_refl _) (Nat.le_trans H1.out.2.2.size (by simp)))⟩
       clear hc2 hB2 hO2 H1))
  clear v0 v1 v2 v3 v4 v5 x0 x1 H5
  refine (show Calls Tryd.prog 33 #[.slice oa 32 cn, .slice (some o') (s.size + 5) c', .int .i64 32] w2 _ from expand_any oa (some o') 32 cn (s.size + 5) c' K (kiF s x) 32 w2 (HKB.out _ H2.out.2.2) HS.out.2.2 (fun e => by obtain ⟨_, b, off, e2, _⟩ := (HKB.out _ (Below.refl _ w)) 0 (by decide); rw [e] at e2; cases e2) (by decide) H2.out.2.1 H2.out.1 (by have := HS.out; omega) (by decide) (HG.out.later H2.out.2.2)).mono ?_
  rintro e w3 ⟨o, rfl, hB3, hn3, hb3⟩
  have H3 : Hid (Bytes w3 o 32 (exF 32 K (s.size + 5) (kiF s x)) ∧ Below w.heap.size w w3) := Lib.hid ⟨hB3, H2.out.2.2.trans (hb3.mono H2.out.2.2.size)⟩
  clear hB3 hn3 hb3 H2
  go_wp2_with fail
  go_ret2
  exact ⟨o, rfl, H3.out.1, H3.out.2⟩
end Go.Proofs.YtloajfbehejehaaDoor
