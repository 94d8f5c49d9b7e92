/- The box: sync.Once, what stands for each byte, and back. -/
import Derived.Test.YtkcbckafibjflaaGreatDoorSbm
import Derived.Test.YtkcbckafibjflaaGreatDoorGfNew
namespace Go.Proofs.YtkcbckafibjflaaGreatDoor
set_option linter.unusedVariables false
set_option linter.unusedSimpArgs false
open Go.RowKit

theorem Own.two {b c : Nat} {w w1 w2 : World} (h : Own b w w1) (k : Own c w1 w2) (hc : w.heap.size ≤ c) : Own b w w2 :=
  ⟨k.os.trans h.os, k.tape.trans h.tape, k.output.trans h.output, Nat.le_trans h.size k.size, fun i hi hn => (k.block i (Nat.lt_of_lt_of_le hi h.size) (by omega)).trans (h.block i hi hn)⟩

def boxCells (d s : Int) (S B : List Nat) : List Value := [.int .u32 d, .int .i32 s, .int .u32 0] ++ (S.map (fun x : Nat => Value.int .u8 (x : Int)) ++ B.map (fun x : Nat => Value.int .u8 (x : Int)))
theorem box_s (d s : Int) {S : List Nat} (B : List Nat) {i x : Nat} (hi : S[i]? = some x) : (boxCells d s S B)[3 + i]? = some (.int .u8 (x : Int)) := by
  have hl : i < S.length := by
    rcases Nat.lt_or_ge i S.length with h | h
    · exact h
    · rw [List.getElem?_eq_none h] at hi; cases hi
  unfold boxCells
  rw [List.getElem?_append_right (by simp), show 3 + i - [Value.int .u32 d, .int .i32 s, .int .u32 0].length = i from by simp,
    List.getElem?_append_left (by simpa using hl), List.getElem?_map, hi]
  rfl
theorem box_b (d s : Int) {S B : List Nat} (hS : S.length = 256) {i x : Nat} (hi : B[i]? = some x) : (boxCells d s S B)[259 + i]? = some (.int .u8 (x : Int)) := by
  unfold boxCells
  rw [List.getElem?_append_right (by simp; omega), show 259 + i - [Value.int .u32 d, .int .i32 s, .int .u32 0].length = 256 + i from by simp; omega,
    List.getElem?_append_right (by simp [hS]), show 256 + i - (S.map (fun x : Nat => Value.int .u8 (x : Int))).length = i from by simp [hS], List.getElem?_map, hi]
  rfl
theorem box_set_d (d d' s : Int) (S B : List Nat) : (boxCells d s S B).set 0 (.int .u32 d') = boxCells d' s S B := rfl
theorem box_set_l (d s s' : Int) (S B : List Nat) : (boxCells d s S B).set 1 (.int .i32 s') = boxCells d s' S B := rfl
theorem box_set_s (d s : Int) (S B : List Nat) (i x : Nat) (hi : i < S.length) : (boxCells d s S B).set (3 + i) (.int .u8 (x : Int)) = boxCells d s (S.set i x) B := by
  unfold boxCells
  rw [List.set_append_right _ _ (by simp), show 3 + i - [Value.int .u32 d, .int .i32 s, .int .u32 0].length = i from by simp, List.set_append_left _ _ (by simpa using hi), List.map_set]
theorem box_set_b (d s : Int) (S B : List Nat) (hS : S.length = 256) (i x : Nat) : (boxCells d s S B).set (259 + i) (.int .u8 (x : Int)) = boxCells d s S (B.set i x) := by
  unfold boxCells
  rw [List.set_append_right _ _ (by simp; omega), show 259 + i - [Value.int .u32 d, .int .i32 s, .int .u32 0].length = 256 + i from by simp; omega, List.set_append_right _ _ (by simp [hS]),
    show 256 + i - (S.map (fun x : Nat => Value.int .u8 (x : Int))).length = i from by simp [hS], List.map_set]

/-- A box in a block of its own: the flag, the lock, what stands for each byte, and back. -/
def Box (w : World) (b : Nat) (d s : Int) (S B : List Nat) : Prop := Blk w b (boxCells d s S B).toArray 126 ∧ S.length = 256 ∧ B.length = 256
theorem Box.cell {w : World} {b : Nat} {d s : Int} {S B : List Nat} (h : Box w b d s S B) (k : Nat) : w.cell? ⟨b, k, none⟩ = (boxCells d s S B)[k]? := by
  rw [Blk.cell h.1 k]; simp
theorem Box.some {w : World} {b : Nat} {d s : Int} {S B : List Nat} (h : Box w b d s S B) {k : Nat} (hk : k < 515) : ∃ v, w.cell? ⟨b, k, none⟩ = some v := by
  have hl : (boxCells d s S B).length = 515 := by unfold boxCells; simp [h.2.1, h.2.2]
  rw [h.cell k, List.getElem?_eq_getElem (by omega)]; exact ⟨_, rfl⟩
theorem Box.set_s {w : World} {b : Nat} {d s : Int} {S B : List Nat} (h : Box w b d s S B) (i x : Nat) (hi : i < 256) : Box (w.setCell ⟨b, 3 + i, none⟩ (.int .u8 (x : Int))) b d s (S.set i x) B := by
  refine ⟨?_, by rw [List.length_set]; exact h.2.1, h.2.2⟩
  have := Blk.set h.1 (3 + i) (.int .u8 (x : Int))
  rw [set_toArray, box_set_s d s S B i x (by rw [h.2.1]; exact hi)] at this; exact this
theorem Box.set_b {w : World} {b : Nat} {d s : Int} {S B : List Nat} (h : Box w b d s S B) (i x : Nat) : Box (w.setCell ⟨b, 259 + i, none⟩ (.int .u8 (x : Int))) b d s S (B.set i x) := by
  refine ⟨?_, h.2.1, by rw [List.length_set]; exact h.2.2⟩
  have := Blk.set h.1 (259 + i) (.int .u8 (x : Int))
  rw [set_toArray, box_set_b d s S B h.2.1 i x] at this; exact this
theorem Box.set_l {w : World} {b : Nat} {d s : Int} {S B : List Nat} (h : Box w b d s S B) (s' : Int) : Box (w.setCell ⟨b, 1, none⟩ (.int .i32 s')) b d s' S B := by
  refine ⟨?_, h.2⟩
  have := Blk.set h.1 1 (.int .i32 s')
  rw [set_toArray, box_set_l] at this; exact this
theorem Box.set_d {w : World} {b : Nat} {d s : Int} {S B : List Nat} (h : Box w b d s S B) (d' : Int) : Box (w.setCell ⟨b, 0, none⟩ (.int .u32 d')) b d' s S B := by
  refine ⟨?_, h.2⟩
  have := Blk.set h.1 0 (.int .u32 d')
  rw [set_toArray, box_set_d] at this; exact this

def RInvB (b tb : Nat) (w0 : World) (d s : Int) (i : Value) (wr : World) : Prop :=
  ∃ k : Nat, k ≤ 256 ∧ i = .int .i64 k ∧ Box wr b d s (Sk k) (Bk k) ∧ TabIn wr tb ∧ Own b w0 wr

theorem TabIn.setB {w : World} {b c : Nat} (h : TabIn w b) (hn : b ≠ c) (k : Nat) (v : Value) : TabIn (w.setCell ⟨c, k, none⟩ v) b :=
  h.own ((Own.refl c w).set k v) hn

set_option maxRecDepth 100000 in
set_option maxHeartbeats 2000000 in
theorem reckonB (b : Nat) (d s : Int) (w : World) (h : Box w b d s (Sk 0) (Bk 0)) :
    Calls Tryz.prog 62 #[.pointer (some ⟨b, 0, none⟩)] w fun e w' => e = .returned (.tuple #[]) ∧ Box w' b d s (Sk 256) (Bk 256) ∧ Own b w w' := by
  have hbl := Blk.lt h.1
  have hne : b ≠ w.heap.size := by omega
  have Hle : Hid (w.heap.size ≤ w.heap.size) := Nat.le_refl _
  go_enter Tryz.func62, Tryz.ntmps62
  go_wp2_with fail
  refine (gfnew_any _).mono ?_
  rintro e w0 ⟨rfl, hT0, hB0⟩
  have hO0 : Own b w w0 := Own.of_below hB0 |>.trans (Own.refl _ _)
  have hX0 : Box w0 b d s (Sk 0) (Bk 0) := ⟨Blk.below h.1 hB0 hbl, h.2⟩
  obtain ⟨tb, htb⟩ : ∃ tb, w.heap.size = tb := ⟨_, rfl⟩
  rw [htb] at hT0 hne ⊢
  have htb' : w.heap.size ≤ tb := Nat.le_of_eq htb
  clear htb hB0 h
  go_wp2_with fail
  go_loopw [8] (fun i wr => RInvB b tb w d s i wr) (fun i _ => 256 - (intOf i).toNat)
  case atStart => exact ⟨0, by omega, rfl, hX0, hT0, hO0⟩
  case round =>
    obtain ⟨k, hk, rfl, hX, hT, hO⟩ := hrel
    clear hX0 hT0 hO0
    by_cases hlt : k < 256
    · have hx := subN_lt k
      by_cases h0 : k = 0
      · subst h0
        have hsub : spreadN 0 = subN 0 := rfl
        have HS : Hid _ := hsub
        clear hsub
        obtain ⟨v1, c1⟩ := hX.some (k := 3) (by omega)
        have f1 : wr.frozen? ⟨b, 3, none⟩ = false := Blk.free hX.1 3
        have hX1 := hX.set_s 0 (subN 0) (by omega)
        obtain ⟨v2, c2⟩ := hX1.some (k := 259 + subN 0) (by omega)
        have f2 : (wr.setCell ⟨b, 3 + 0, none⟩ (.int .u8 (subN 0))).frozen? ⟨b, 259 + subN 0, none⟩ = false := Blk.free hX1.1 (259 + subN 0)
        have hX2 := hX1.set_b (subN 0) 0
        rw [← Sk_succ, ← Bk_succ] at hX2
        rw [show 3 + 0 = 3 from rfl] at c2 f2 hX2
        have hT2 := (hT.setB (Ne.symm hne) 3 (.int .u8 (subN 0))).setB (Ne.symm hne) (259 + subN 0) (.int .u8 ((0 : Nat) : Int))
        go_wp2_with fail
        refine (inv_zero tb _).mono ?_
        rintro e w' ⟨rfl, rfl⟩
        go_wp2_with fail
        refine (spread_any 0 _ (by decide)).mono ?_
        rintro e w' ⟨rfl, rfl⟩
        rw [HS.out]
        clear HS
        generalize subN 0 = sv at *
        go_wp2_with fail
        go_roundw
        case rel => exact ⟨1, by omega, by go_num, hX2, hT2, (hO.set _ _).set _ _⟩
        case measure => simp [intOf]
      · have hsub : spreadN (divN 1 k) = subN k := by unfold subN invN; rw [if_neg h0]
        have HS : Hid _ := hsub
        clear hsub
        have H0 : Hid _ := h0
        clear h0
        have hd := divN_lt 1 k
        go_wp2_with fail
        refine (inv_any tb k _ hT hlt H0.out).mono ?_
        rintro e w1 ⟨rfl, hT1, hO1⟩
        have hO2 := hO.two hO1 htb'
        have hY : Box w1 b d s (Sk k) (Bk k) := ⟨hO1.blk hX.1 hne, hX.2⟩
        clear hX hT hO hO1
        obtain ⟨v1, c1⟩ := hY.some (k := 3 + k) (by omega)
        have f1 : w1.frozen? ⟨b, 3 + k, none⟩ = false := Blk.free hY.1 (3 + k)
        have hX1 := hY.set_s k (subN k) hlt
        obtain ⟨v2, c2⟩ := hX1.some (k := 259 + subN k) (by omega)
        have f2 : (w1.setCell ⟨b, 3 + k, none⟩ (.int .u8 (subN k))).frozen? ⟨b, 259 + subN k, none⟩ = false := Blk.free hX1.1 (259 + subN k)
        have hX2 := hX1.set_b (subN k) k
        rw [← Sk_succ, ← Bk_succ] at hX2
        have hT2 := (hT1.setB (Ne.symm hne) (3 + k) (.int .u8 (subN k))).setB (Ne.symm hne) (259 + subN k) (.int .u8 (k : Int))
        go_wp2_with fail
        refine (spread_any (divN 1 k) _ hd).mono ?_
        rintro e w' ⟨rfl, rfl⟩
        rw [HS.out]
        clear HS
        generalize subN k = sv at *
        go_wp2_with fail
        go_roundw
        case rel => exact ⟨k + 1, by omega, by go_num, hX2, hT2, (hO2.set _ _).set _ _⟩
        case measure => simp [intOf]; omega
    · obtain rfl : k = 256 := by omega
      go_wp2_with fail
      go_end0
      exact ⟨rfl, hX, hO⟩

set_option maxRecDepth 100000 in
set_option maxHeartbeats 1600000 in
theorem slowB (b : Nat) (w : World) (h : Box w b 0 0 (Sk 0) (Bk 0)) :
    Calls Tryz.prog 64 #[.pointer (some ⟨b, 0, none⟩), .func (.func 62) #[.pointer (some ⟨b, 0, none⟩)] #[]] w fun e w' => e = .returned (.tuple #[]) ∧ Box w' b 1 0 (Sk 256) (Bk 256) ∧ Own b w w' := by
  have c1 : w.cell? ⟨b, 1, none⟩ = some (.int .i32 0) := h.cell 1
  have f1 : w.frozen? ⟨b, 1, none⟩ = false := Blk.free h.1 1
  have h1 := h.set_l 1
  have c0 : (w.setCell ⟨b, 1, none⟩ (.int .i32 1)).cell? ⟨b, 0, none⟩ = some (.int .u32 0) := h1.cell 0
  have hnot : ∀ (x : Bool) (w : World), (Op.unary .not (.bool x)).run Tryz.prog w = .ok (.bool (!x)) w := fun _ _ => rfl
  go_enter_defers Tryz.func64, Tryz.ntmps64
  go_wp2_with fail
  refine (lock_free ⟨b, 1, none⟩ _ c1 f1).mono ?_
  rintro e w' ⟨rfl, rfl⟩
  go_wp2_with fail
  refine (flag_load _ 0 false _ c0 rfl).mono ?_
  rintro e w' ⟨rfl, rfl⟩
  go_wp2_with fail
  refine (reckonB b 0 1 _ h1).mono ?_
  rintro e w2 ⟨rfl, hT2, hO2⟩
  go_wp2_with fail
  refine leaves_cons (f := 71) (args := #[.pointer (some ⟨b, 0, none⟩), .bool true]) (by simp) (by simp [go_sem]) ?_
  refine (flag_deferred ⟨b, 0, none⟩ (.int .u32 0) .returning _ (hT2.cell 0) (Blk.free hT2.1 0)).mono ?_
  rintro e u' w'' ⟨rfl, rfl, rfl⟩
  have hT3 : Box (w2.drew.setCell ⟨b, 0, none⟩ (.int .u32 1)) b 1 1 (Sk 256) (Bk 256) := Box.set_d (w := w2.drew) hT2 1
  refine leaves_cons (f := 70) (args := #[.pointer (some ⟨b, 1, none⟩)]) (by simp [settle]) (by simp [go_sem]) ?_
  refine (unlock_deferred ⟨b, 1, none⟩ _ _ (hT3.cell 1) (Blk.free hT3.1 1)).mono ?_
  rintro e u' w'' ⟨rfl, rfl, rfl⟩
  simp [Leaves, settle, results, Tryz.results64]
  exact ⟨hT3.set_l 0, ((((Own.refl b w).set 1 _).trans hO2).drew.set 0 _).set 1 _⟩

/-- A table that was not asked yet, or is reckoned. -/
def BoxIn (w : World) (b : Nat) : Prop := Box w b 0 0 (Sk 0) (Bk 0) ∨ Box w b 1 0 (Sk 256) (Bk 256)
theorem BoxIn.own {w w' : World} {b c : Nat} (h : BoxIn w b) (hO : Own c w w') (hn : b ≠ c) : BoxIn w' b :=
  h.elim (fun t => .inl ⟨hO.blk t.1 hn, t.2⟩) (fun t => .inr ⟨hO.blk t.1 hn, t.2⟩)
theorem BoxIn.lt {w : World} {b : Nat} (h : BoxIn w b) : b < w.heap.size := h.elim (fun t => Blk.lt t.1) (fun t => Blk.lt t.1)
theorem BoxIn.below {w w' : World} {b : Nat} (h : BoxIn w b) (hO : Below w.heap.size w w') : BoxIn w' b :=
  h.elim (fun t => .inl ⟨Blk.below t.1 hO (Blk.lt t.1), t.2⟩) (fun t => .inr ⟨Blk.below t.1 hO (Blk.lt t.1), t.2⟩)

set_option maxRecDepth 100000 in
set_option maxHeartbeats 1600000 in
theorem doB_first (b : Nat) (w : World) (h : Box w b 0 0 (Sk 0) (Bk 0)) :
    Calls Tryz.prog 61 #[.pointer (some ⟨b, 0, none⟩), .func (.func 62) #[.pointer (some ⟨b, 0, none⟩)] #[]] w fun e w' => e = .returned (.tuple #[]) ∧ Box w' b 1 0 (Sk 256) (Bk 256) ∧ Own b w w' := by
  have hnot : ∀ (x : Bool) (w : World), (Op.unary .not (.bool x)).run Tryz.prog w = .ok (.bool (!x)) w := fun _ _ => rfl
  go_enter Tryz.func61, Tryz.ntmps61
  go_wp2_with fail
  refine (flag_load _ 0 false _ (h.cell 0) rfl).mono ?_
  rintro e w' ⟨rfl, rfl⟩
  go_wp2_with fail
  refine (slowB b _ h).mono ?_
  rintro e w2 ⟨rfl, hT, hO⟩
  go_wp2_with fail
  go_end0
  exact ⟨rfl, hT, hO⟩

set_option maxHeartbeats 800000 in
theorem doB_done (b : Nat) (f : Value) (w : World) (h : Box w b 1 0 (Sk 256) (Bk 256)) :
    Calls Tryz.prog 61 #[.pointer (some ⟨b, 0, none⟩), f] w fun e w' => e = .returned (.tuple #[]) ∧ w = w' := by
  have hnot : ∀ (x : Bool) (w : World), (Op.unary .not (.bool x)).run Tryz.prog w = .ok (.bool (!x)) w := fun _ _ => rfl
  go_enter Tryz.func61, Tryz.ntmps61
  go_wp2_with fail
  refine (flag_load _ 1 true _ (h.cell 0) rfl).mono ?_
  rintro e w' ⟨rfl, rfl⟩
  go_wp2_with fail
  go_end0
  exact ⟨rfl, rfl⟩

set_option maxRecDepth 100000 in
set_option maxHeartbeats 800000 in
theorem readyB (b : Nat) (w : World) (h : BoxIn w b) :
    Calls Tryz.prog 59 #[.pointer (some ⟨b, 0, none⟩)] w fun e w' => e = .returned (.tuple #[]) ∧ Box w' b 1 0 (Sk 256) (Bk 256) ∧ Own b w w' := by
  have hmf : ∀ (fn : Fn) (first cap : Array Value) (w : World), (Instr.makeFunc fn first cap).run Tryz.prog w = .ok (.func fn first cap) w := fun _ _ _ _ => rfl
  rcases h with h | h
  · obtain ⟨v0, c0⟩ := h.some (k := 0) (by omega)
    go_enter Tryz.func59, Tryz.ntmps59
    go_wp2_with fail
    refine (doB_first b _ h).mono ?_
    rintro e w2 ⟨rfl, hT, hO⟩
    go_wp2_with fail
    go_end0
    exact ⟨rfl, hT, hO⟩
  · go_enter Tryz.func59, Tryz.ntmps59
    go_wp2_with fail
    refine (doB_done b _ _ h).mono ?_
    rintro e w2 ⟨rfl, rfl⟩
    go_wp2_with fail
    go_end0
    exact ⟨rfl, h, Own.refl _ _⟩


/-- The cells of a new box. -/
def zeroX : Array Value := (boxCells 0 0 (Sk 0) (Bk 0)).toArray
theorem zeroX_run (w : World) : (zeroValue 126).run Tryz.prog w = .ok (.agg zeroX) w := by kernel_rfl

set_option maxRecDepth 100000 in
set_option maxHeartbeats 1600000 in
theorem sbnew_any (w : World) :
    Calls Tryz.prog 30 #[] w fun e w' => e = .returned (.pointer (some ⟨w.heap.size, 0, none⟩)) ∧ BoxIn w' w.heap.size ∧ Below w.heap.size w w' := by
  have hz := zeroX_run
  go_enter Tryz.func30, Tryz.ntmps30
  go_wp2_with fail
  go_ret
  exact ⟨rfl, .inl ⟨Blk.new _ _ _, Sk_len 0, Bk_len 0⟩, (Below.refl _ _).alloc (Nat.le_refl _) _⟩

def LeftB (b : Nat) (w w' : World) : Prop := BoxIn w' b ∧ Own b w w'

set_option maxRecDepth 100000 in
set_option maxHeartbeats 800000 in
theorem sub_any (b x : Nat) (w : World) (h : BoxIn w b) (hx : x < 256) :
    Calls Tryz.prog 48 #[.pointer (some ⟨b, 0, none⟩), .int .u8 x] w fun e w' => e = .returned (.int .u8 (subN x : Nat)) ∧ LeftB b w w' := by
  go_enter Tryz.func48, Tryz.ntmps48
  go_wp2_with fail
  refine (readyB b _ h).mono ?_
  rintro e w2 ⟨rfl, hT, hO⟩
  have c1 : w2.cell? ⟨b, 3 + x, none⟩ = some (.int .u8 (subN x : Nat)) := (hT.cell (3 + x)).trans (box_s 1 0 _ (S_at hx))
  go_wp2_with fail
  go_ret
  exact ⟨rfl, .inr hT, hO⟩
theorem sub_i {b : Nat} {x y : Int} (w : World) (h : BoxIn w b) (hx : B8 x) (hy : ((subN x.toNat : Nat) : Int) = y) :
    Calls Tryz.prog 48 #[.pointer (some ⟨b, 0, none⟩), .int .u8 x] w fun e w' => e = .returned (.int .u8 y) ∧ LeftB b w w' := by
  subst hy
  obtain ⟨n, hn, rfl⟩ := hx.nat
  rw [Int.toNat_natCast]; exact sub_any b n w h hn
set_option maxHeartbeats 400000 in
theorem sub_nil (x : Int) (w : World) :
    Calls Tryz.prog 48 #[.pointer none, .int .u8 x] w fun e w' => e = .returned (.int .u8 0) ∧ w = w' := by
  go_enter Tryz.func48, Tryz.ntmps48
  go_wp2_with fail
  go_ret
  exact ⟨rfl, rfl⟩

end Go.Proofs.YtkcbckafibjflaaGreatDoor
