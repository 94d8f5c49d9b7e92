/- Two parts, told with their lengths. -/
import Derived.Test.YtbblibddikdakaaDoorHm7
namespace Go.Proofs.YtbblibddikdakaaDoor
set_option linter.unusedVariables false
set_option linter.unusedSimpArgs false
open Go.RowKit

def toF (p q : Nat) (A B : Nat → Nat) : Nat → Nat := catF (4 + p + 4) (catF (4 + p) (catF 4 (numB p 4) A) (numB q 4)) B
theorem toF_lt {p q : Nat} {A B : Nat → Nat} (hA : ∀ i, i < p → A i < 256) (hB : ∀ i, i < q → B i < 256) : ∀ i, i < 4 + p + 4 + q → toF p q A B i < 256 :=
  catF_lt (catF_lt (catF_lt (fun i _ => numB_lt _ _ _) hA) (fun i _ => numB_lt _ _ _)) hB
def fourC (a b : Nat) : Array Value := #[.int .u8 0, .int .u8 0, .int .u8 (a : Nat), .int .u8 (b : Nat)]
theorem fourC_row {l : Nat} (hl : l < 65536) : (fourC (l / 256) (l % 256)).toList = rowC 4 (numB l 4) := by
  have e0 : numB l 4 0 = 0 := by show l / 16777216 % 256 = 0; omega
  have e1 : numB l 4 1 = 0 := by show l / 65536 % 256 = 0; omega
  have e2 : numB l 4 2 = l / 256 := by show l / 256 % 256 = l / 256; omega
  have e3 : numB l 4 3 = l % 256 := by show l / 1 % 256 = l % 256; omega
  show _ = [_, _, _, _]
  show [Value.int .u8 0, .int .u8 0, .int .u8 ((l / 256 : Nat) : Int), .int .u8 ((l % 256 : Nat) : Int)] = [Value.int .u8 ((numB l 4 0 : Nat) : Int), .int .u8 ((numB l 4 1 : Nat) : Int), .int .u8 ((numB l 4 2 : Nat) : Int), .int .u8 ((numB l 4 3 : Nat) : Int)]
  rw [e0, e1, e2, e3]; rfl
theorem Grow.four {w : World} {l base : Nat} (hl : l < 65536) (hb : base ≤ w.heap.size) : Grow (w.alloc (.cells (fourC (l / 256) (l % 256)) 5)) base (.slice (some ⟨w.heap.size, 0, none⟩) 4 4) 4 (numB l 4) :=
  ⟨rowC_len _ _, .inr ⟨w.heap.size, 4, fourC (l / 256) (l % 256), rfl, hb, Blk.new w _ _, Nat.le_refl _, by unfold maxLen; omega, rfl, by rw [← fourC_row hl]; rfl⟩⟩
theorem Bytes.four {w : World} {l : Nat} (hl : l < 65536) : Bytes (w.alloc (.cells (fourC (l / 256) (l % 256)) 5)) (some ⟨w.heap.size, 0, none⟩) 4 (numB l 4) := by
  have h : RB 5 4 w.heap.size (numB l 4) (w.alloc (.cells (fourC (l / 256) (l % 256)) 5)) := by
    show Blk _ _ _ _
    rw [← fourC_row hl]; exact Blk.new w _ _
  exact h.bytes fun i _ => numB_lt _ _ _
theorem grow_below {w0 w w' : World} {base n : Nat} {v : Value} {f : Nat → Nat} (hG : Grow w base v n f) (hb : Below base w0 w) (hs : base ≤ w.heap.size) (hg : w.grownBy w' v.ownBlock) : Below base w0 w' := by
  refine hb.trans ((own_of_grown hg).below ?_ hs)
  cases e : v.ownBlock with
  | none => simp; exact hs
  | some b => simp; exact (hG.lt b e).1
/-- A row of our own, behind what was there. -/
structure OG (w0 : World) (v : Value) (n : Nat) (f : Nat → Nat) (w : World) : Prop where
  g : Grow w w0.heap.size v n f
  o : Below w0.heap.size w0 w
theorem OG.later {w0 w w' : World} {v : Value} {n : Nat} {f : Nat → Nat} (h : OG w0 v n f w) (hb : Below w.heap.size w w') : OG w0 v n f w' := ⟨h.g.later hb, h.o.trans (hb.mono h.o.size)⟩
theorem OG.grew {w0 w w' : World} {v v' : Value} {n n' : Nat} {f f' : Nat → Nat} (h : OG w0 v n f w) (hg : w.grownBy w' v.ownBlock) (hG : Grow w' w0.heap.size v' n' f') : OG w0 v' n' f' w' := ⟨hG, grow_below h.g h.o h.o.size hg⟩
set_option maxRecDepth 100000 in
set_option maxHeartbeats 4000000 in
theorem told_any (oa ob : Option Addr) (p cp q cq : Nat) (A B : Nat → Nat) (w : World) (ha : Bytes w oa p A) (hao : oa = none → p = 0) (hp : p < 65536) (hb : Bytes w ob q B) (hbo : ob = none → q = 0) (hq : q < 65536) :
    Calls Tryd.prog 22 #[.slice oa p cp, .slice ob q cq] w fun e w' => ∃ g c, e = .returned (.slice (some ⟨g, 0, none⟩) (4 + p + 4 + q) c) ∧ Bytes w' (some ⟨g, 0, none⟩) (4 + p + 4 + q) (toF p q A B) ∧ 4 + p + 4 + q ≤ c ∧ Below w.heap.size w w' := by
  have HA : Hid (∀ w', Below w.heap.size w w' → Bytes w' oa p A) := Lib.hid fun w' h => ha.later h
  have HB : Hid (∀ w', Below w.heap.size w w' → Bytes w' ob q B) := Lib.hid fun w' h => hb.later h
  have HA8 : Hid (∀ i, i < p → A i < 256) := Lib.hid fun i hi => (ha i hi).1
  have HB8 : Hid (∀ i, i < q → B i < 256) := Lib.hid fun i hi => (hb i hi).1
  have HAO := Lib.hid hao
  have HBO := Lib.hid hbo
  have HPQ : Hid (p < 65536 ∧ q < 65536) := Lib.hid ⟨hp, hq⟩
  have HGA : Hid (OG w (.slice (some ⟨w.heap.size, 0, none⟩) 4 4) 4 (numB p 4) (w.alloc (.cells (fourC (p / 256) (p % 256)) 5))) := Lib.hid ⟨Grow.four hp (Nat.le_refl _), (Below.refl _ _).alloc (Nat.le_refl _) _⟩
  have HBQ : Hid (∀ w', Bytes (World.alloc w' (.cells (fourC (q / 256) (q % 256)) 5)) (some ⟨w'.heap.size, 0, none⟩) 4 (numB q 4)) := Lib.hid fun w' => Bytes.four hq
  have p1 : (p : Int).tdiv 256 = ((p / 256 : Nat) : Int) := by rw [Int.tdiv_eq_ediv_of_nonneg (by omega)]; omega
  have p2 : (p : Int).tmod 256 = ((p % 256 : Nat) : Int) := by rw [Int.tmod_eq_emod_of_nonneg (by omega)]; omega
  have p3 : (p : Int) / 256 = ((p / 256 : Nat) : Int) := by omega
  have p4 : (p : Int) % 256 = ((p % 256 : Nat) : Int) := by omega
  have q1 : (q : Int).tdiv 256 = ((q / 256 : Nat) : Int) := by rw [Int.tdiv_eq_ediv_of_nonneg (by omega)]; omega
  have q2 : (q : Int).tmod 256 = ((q % 256 : Nat) : Int) := by rw [Int.tmod_eq_emod_of_nonneg (by omega)]; omega
  have q3 : (q : Int) / 256 = ((q / 256 : Nat) : Int) := by omega
  have q4 : (q : Int) % 256 = ((q % 256 : Nat) : Int) := by omega
  have pa : p / 256 < 256 := by omega
  have pb : p % 256 < 256 := by omega
  have qa : q / 256 < 256 := by omega
  have qb : q % 256 < 256 := by omega
  have hp0 : (p : Int) ≤ 9223372036854775807 := by omega
  have hq0 : (q : Int) ≤ 9223372036854775807 := by omega
  unfold fourC at HGA HBQ
  generalize p / 256 = x1 at *
  generalize p % 256 = x2 at *
  generalize q / 256 = y1 at *
  generalize q % 256 = y2 at *
  have px : (x1 : Int) % 256 = (x1 : Int) := by omega
  have py : (x2 : Int) % 256 = (x2 : Int) := by omega
  have qx : (y1 : Int) % 256 = (y1 : Int) := by omega
  have qy : (y2 : Int) % 256 = (y2 : Int) := by omega
  clear ha hb hao hbo hp hq pa pb qa qb
  go_enter Tryd.func22, Tryd.ntmps22
  go_wp2_with (first
    | (refine wpList_appO rfl (.tmp 15) (.tmp 16) rfl w.heap.size _ 4 p cp oa (numB p 4) A (w.alloc (.cells #[.int .u8 0, .int .u8 0, .int .u8 (x1 : Nat), .int .u8 (x2 : Nat)] 5)) rfl HGA.out.g rfl HAO.out (HA.out _ HGA.out.o) (by have := HPQ.out; omega) HGA.out.o.size ?_; intro v1 w1 hG1 hg1 hob1; have H1 : Hid (OG w v1 (4 + p) (catF 4 (numB p 4) A) (w1.alloc (.cells #[.int .u8 0, .int .u8 0, .int .u8 (y1 : Nat), .int .u8 (y2 : Nat)] 5))) := Lib.hid ((HGA.out.grew hg1 hG1).later ((Below.refl _ _).alloc (Nat.le_refl _) _)); clear hG1 hg1 hob1)
    | (refine wpList_appO rfl (.tmp 17) (.tmp 26) rfl w.heap.size _ (4 + p) 4 4 (some ⟨w1.heap.size, 0, none⟩) _ (numB q 4) (w1.alloc (.cells #[.int .u8 0, .int .u8 0, .int .u8 (y1 : Nat), .int .u8 (y2 : Nat)] 5)) rfl H1.out.g rfl (fun h => by cases h) (HBQ.out _) (by have := HPQ.out; omega) H1.out.o.size ?_; intro v2 w2 hG2 hg2 hob2; have H2 := Lib.hid (H1.out.grew hg2 hG2); clear hG2 hg2 hob2)
    | (refine wpList_appO rfl (.tmp 28) (.tmp 29) rfl w.heap.size _ (4 + p + 4) q cq ob _ B w2 rfl H2.out.g rfl HBO.out (HB.out _ H2.out.o) (by have := HPQ.out; omega) H2.out.o.size ?_; intro v3 w3 hG3 hg3 hob3; have H3 : Hid (OG w v3 (4 + p + 4 + q) (toF p q A B) w3) := Lib.hid (H2.out.grew hg3 hG3); clear hG3 hg3 hob3))
  obtain ⟨o3, c3, hv3, hB3, hc3, hn3⟩ := H3.out.g.bytesC (toF_lt HA8.out HB8.out)
  subst hv3
  cases o3 with
  | none => have := hn3 rfl; omega
  | some a3 =>
    obtain ⟨g3, rfl⟩ : ∃ g, a3 = ⟨g, 0, none⟩ := by
      rcases H3.out.g.2 with ⟨h2, _⟩ | ⟨g, cap', cur, h2, _⟩
      · cases h2
      · cases h2; exact ⟨_, rfl⟩
    go_ret
    exact ⟨g3, c3, rfl, hB3, hc3, H3.out.o⟩
end Go.Proofs.YtbblibddikdakaaDoor
