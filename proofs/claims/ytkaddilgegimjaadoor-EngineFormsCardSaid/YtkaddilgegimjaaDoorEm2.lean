/- engine.Encode. -/
import Derived.Test.YtkaddilgegimjaaDoorEm0
import Derived.Test.YtkaddilgegimjaaDoorPk4
import Derived.Test.YtkaddilgegimjaaDoorEn9
import Derived.Deep.DeepCutAuto
import Derived.Deep.RegionHeld3
namespace Go.Proofs.YtkaddilgegimjaaDoor
set_option linter.unusedVariables false
set_option linter.unusedSimpArgs false
open Go.RowKit

theorem Grow.some {w : World} {base n : Nat} {v : Value} {f : Nat → Nat} (h : Grow w base v n f) (hn : 0 < n) : ∃ g c, v = .slice (some ⟨g, 0, none⟩) n c ∧ base ≤ g ∧ n ≤ c ∧ c ≤ maxLen := by
  rcases h.2 with ⟨_, h0⟩ | ⟨g, cap, cur, rfl, hb, hh, hnc, hm, _, _⟩
  · omega
  · exact ⟨g, cap, rfl, hb, hnc, hm⟩
/-- Bytes in new memory, behind a block that is kept. -/
def EB (w0 : World) (b : Nat) (C : Array Value) (t : TypeId) (N : Nat) (F : Nat → Nat) (v : Value) (wx : World) : Prop := ∃ g c, v = .slice (some ⟨g, 0, none⟩) N c ∧ N ≤ c ∧ c ≤ maxLen ∧ Bytes wx (some ⟨g, 0, none⟩) N F ∧ Blk wx b C t ∧ Below w0.heap.size w0 wx
theorem EB.mk {w0 w w' : World} {b base N : Nat} {C : Array Value} {t : TypeId} {F G : Nat → Nat} {v : Value} (h : Grow w' base v N F) (hN : 0 < N) (hF : ∀ i, i < N → F i = G i) (hl : ∀ i, i < N → G i < 256) (hB : Blk w b C t) (hb : Below w.heap.size w w') (h0 : Below w0.heap.size w0 w) : EB w0 b C t N G v w' := by
  obtain ⟨g, c, rfl, _, hc, hm⟩ := h.some hN
  obtain ⟨oa, c2, he, hBy, _⟩ := (h.congr hF).bytes hl
  cases he
  exact ⟨g, c, rfl, hc, hm, hBy, hB.below hb hB.lt, h0.trans (hb.mono h0.size)⟩
/-- Where a byte slice of a constant is turned into itself: only a mark behind it. -/
theorem conv_self {w : World} {g : Nat} {C : Array Value} (n c : Nat) (h : Blk w g C 5) : (convert 31 31 (.slice (some ⟨g, 0, none⟩) n c)).run Tryd.prog w = .ok (.slice (some ⟨g, 0, none⟩) n c) (w.freeze ⟨g, C.size, none⟩ 1) := by
  have hsh : w.shape? g = some (5, C.size) := by
    unfold World.shape?; rw [show w.heap[g]? = some (.cells C 5 (0, 0)) from h]
  simp [convert, run_underlying Tryd.underlying31, run_underlying Tryd.underlying5, markStringish, hsh]
theorem frozen_cell {w : World} {a : Addr} {g k : Nat} : (w.freeze ⟨g, k, none⟩ 1).cell? a = w.cell? a := by
  unfold World.freeze World.cell?
  rw [if_neg (by decide)]
  simp only [Array.getElem?_modify]
  by_cases e : g = a.block
  · rw [if_pos e]
    cases w.heap[a.block]? with
    | none => rfl
    | some o => cases o <;> rfl
  · rw [if_neg e]
theorem own_freeze {w : World} {g k : Nat} : Own g w (w.freeze ⟨g, k, none⟩ 1) := by
  refine ⟨?_, ?_, ?_, ?_, fun q _ hn => ?_⟩ <;> unfold World.freeze <;> rw [if_neg (by decide)]
  · simp
  · rw [Array.getElem?_modify, if_neg (Ne.symm hn)]
theorem Bytes.freeze {w : World} {oa : Option Addr} {n g k : Nat} {f : Nat → Nat} (h : Bytes w oa n f) : Bytes (w.freeze ⟨g, k, none⟩ 1) oa n f := fun i hi => by
  obtain ⟨h1, b, off, e, hc⟩ := h i hi
  exact ⟨h1, b, off, e, by rw [frozen_cell]; exact hc⟩
theorem se_bytes {w : World} {g : Nat} (h : Blk w g #[.int .u8 115, .int .u8 101] 5) : Bytes w (some ⟨g, 0, none⟩) 2 seF := fun i hi => by
  refine ⟨by unfold seF; split <;> decide, g, 0, rfl, ?_⟩
  rw [Nat.zero_add, Blk.cell h i]
  match i, hi with
  | 0, _ => rfl
  | 1, _ => rfl
/-- Four slices in a row. -/
theorem parts4 {w : World} {a0 a1 a2 a3 : Addr} {n0 n1 n2 n3 c0 c1 c2 c3 : Nat} {f0 f1 f2 f3 : Nat → Nat} (h0 : Bytes w (some a0) n0 f0) (h1 : Bytes w (some a1) n1 f1) (h2 : Bytes w (some a2) n2 f2) (h3 : Bytes w (some a3) n3 f3) (g : Nat) (hg : g = w.heap.size) :
    Parts (w.alloc (.cells #[.slice (some a0) n0 c0, .slice (some a1) n1 c1, .slice (some a2) n2 c2, .slice (some a3) n3 c3] 31)) g 0 4 (p4 n0 n1 n2 n3) (p4 f0 f1 f2 f3) := fun i hi => by
  subst hg
  have hB := Blk.new w #[.slice (some a0) n0 c0, .slice (some a1) n1 c1, .slice (some a2) n2 c2, .slice (some a3) n3 c3] 31
  match i, hi with
  | 0, _ => exact ⟨a0, c0, Blk.cell hB 0, h0.alloc _⟩
  | 1, _ => exact ⟨a1, c1, Blk.cell hB 1, h1.alloc _⟩
  | 2, _ => exact ⟨a2, c2, Blk.cell hB 2, h2.alloc _⟩
  | 3, _ => exact ⟨a3, c3, Blk.cell hB 3, h3.alloc _⟩

set_option maxRecDepth 100000 in
set_option maxHeartbeats 1000000 in
theorem eenc_bad (oa : Option Addr) (n cp last : Nat) (max : Int) (V : Nat → Ver) (w : World) (hn : n ≤ maxLen) (hl : last < 4294967296) (hV : Vers w oa n V) (h : ¬ SecOk n last max V) :
    Calls Tryd.prog 57 #[.agg #[.slice oa n cp, .int .u32 (last : Int), .int .i64 max]] w fun e w' => e = .returned (.tuple #[.slice none 0 0, .iface 146 (.int .i64 1)]) ∧ Below w.heap.size w w' := by
  have HV := Lib.hid (hV.later ((Below.refl _ _).alloc (Nat.le_refl _) _ : Below w.heap.size w (w.alloc (.cells #[.slice oa n cp, .int .u32 (last : Int), .int .i64 max] 79))))
  have HF := Lib.hid fun w2 (hV2 : Vers w2 oa n V) => check_bad oa n cp last max V w2 hn hl hV2 h
  clear hV h hn
  go_enter Tryd.func57, Tryd.ntmps57
  go_wp2_with fail
  refine (HF.out _ HV.out).mono ?_
  rintro e w1 ⟨rfl, hb⟩
  go_wp2_with fail
  go_ret2
  exact ⟨rfl, ((Below.refl _ _).alloc (Nat.le_refl _) _).trans (hb.mono (by simp))⟩
set_option maxRecDepth 100000 in
set_option maxHeartbeats 8000000 in
theorem eenc_ok (oa : Option Addr) (n cp last M : Nat) (V : Nat → Ver) (w : World) (hl : last < 4294967296) (hV : Vers w oa n V) (ht : ∀ i, i < n → (V i).t < 18446744073709551616) (h : SecOk n last (M : Int) V) :
    Calls Tryd.prog 57 #[.agg #[.slice oa n cp, .int .u32 (last : Int), .int .i64 (M : Int)]] w fun e w' => ∃ v, e = .returned (.tuple #[v, .nilIface]) ∧ EB w w.heap.size #[.slice oa n cp, .int .u32 (last : Int), .int .i64 (M : Int)] 79 (encL V n) (encF n last M V n) v w' := by
  have hn8 : n ≤ 8 := by have := h.1.2.1; have := h.1.2.2.1; omega
  have hM8 : M ≤ 8 := by have := h.1.2.1; omega
  have HLT := Lib.hid (fun k (hk : k ≤ n) => encF_lt (n := n) (last := last) (max := M) (V := V) (by omega) (by omega) (k := k) (fun i hi => by
    have h1 := (h.2 i (by omega)).2
    obtain ⟨_, _, _, _, _, hB, _⟩ := hV.get i (by omega)
    exact ⟨by have := h1.1; omega, by have := h1.2.2.1; omega, fun j hj => (hB j hj).1⟩))
  have HLT0 := Lib.hid (HLT.out 0 (Nat.zero_le _))
  have HN8 := Lib.hid (show n < 256 by omega)
  have HM8 := Lib.hid (show M < 256 by omega)
  have HM := Lib.hid (show M < 18446744073709551616 by omega)
  have HL := Lib.hid (show last < 18446744073709551616 by omega)
  have HN := Lib.hid (show n < 18446744073709551616 by omega)
  have HV := Lib.hid (hV.later ((Below.refl _ _).alloc (Nat.le_refl _) _ : Below w.heap.size w (w.alloc (.cells #[.slice oa n cp, .int .u32 (last : Int), .int .i64 (M : Int)] 79))))
  have HV0 := Lib.hid hV
  have HF := Lib.hid fun w2 (hV2 : Vers w2 oa n V) => check_yes oa n cp last (M : Int) V w2 (by unfold maxLen; omega) hl hV2 h
  have HS := Lib.hid h
  have HT := Lib.hid ht
  have n8 : (n : Int) ≤ 8 := by omega
  have m8 : (M : Int) ≤ 8 := by omega
  have n0 : (0 : Int) ≤ (n : Int) := by omega
  have m0 : (0 : Int) ≤ (M : Int) := by omega
  have l0 : (0 : Int) ≤ (last : Int) := by omega
  have l1 : (last : Int) < 4294967296 := by omega
  have k1 : IntKind.u64.wrap (M : Int) = (M : Int) := by rw [IntKind.wrap_u64]; omega
  have k2 : IntKind.u64.wrap (last : Int) = (last : Int) := by rw [IntKind.wrap_u64]; omega
  have k3 : IntKind.u64.wrap (n : Int) = (n : Int) := by rw [IntKind.wrap_u64]; omega
  clear hV h hl ht hn8 hM8
  go_enter Tryd.func57, Tryd.ntmps57
  go_wp2_with fail
  refine (HF.out _ HV.out).mono ?_
  rintro e w1 ⟨rfl, hb⟩
  have B0 : Blk w1 w.heap.size #[.slice oa n cp, .int .u32 (last : Int), .int .i64 (M : Int)] 79 := Blk.below (Blk.new _ _ _) hb (by simp)
  have O0 : Below w.heap.size w w1 := ((Below.refl _ _).alloc (Nat.le_refl _) _).trans (hb.mono (by simp))
  have x0_0 : w1.cell? ⟨w.heap.size, 0, none⟩ = some (.slice oa n cp) := Blk.cell B0 0
  have x0_1 : w1.cell? ⟨w.heap.size, 1, none⟩ = some (.int .u32 (last : Int)) := Blk.cell B0 1
  have x0_2 : w1.cell? ⟨w.heap.size, 2, none⟩ = some (.int .i64 (M : Int)) := Blk.cell B0 2
  clear hb HF HV
  go_upto_region 4 with fail
  go_cut [5] (EB w w.heap.size #[.slice oa n cp, .int .u32 (last : Int), .int .i64 (M : Int)] 79 (encL V 0) (encF n last M V 0))
  case first =>
    have Bd : Blk w1.drew w.heap.size #[.slice oa n cp, .int .u32 (last : Int), .int .i64 (M : Int)] 79 := B0
    have Od : Below w.heap.size w w1.drew := ⟨O0.os, O0.tape, O0.output, O0.size, O0.block⟩
    refine wp_region_held_drew (S := (fun w' => w'.cell? ⟨w.heap.size, 0, none⟩ = some (.slice oa n cp) ∧ w'.cell? ⟨w.heap.size, 1, none⟩ = some (.int .u32 (last : Int)) ∧ w'.cell? ⟨w.heap.size, 2, none⟩ = some (.int .i64 (M : Int)))) (by kernel_rfl) ?_ (fun hHeld => ?_)
    · (try dsimp only)
      go_keep
    refine wpAnyH_take (i := 2) (oi := { dst := some 15, op := Go.Op.fieldAddr 79 (Go.Operand.tmp 1) 2, type := 0, pos := "engine.go:166", after := #[], guard := none }) (v := ?_) rfl (by kernel_rfl) (by kernel_rfl) (by kernel_rfl) (fun _ _ _ h => h) (Or.inl ⟨by rfl, ?_⟩) (by assumption) ?_
    rotate_left
    · intro w hSw
      (try dsimp only at hSw)
      go_simp
      (try with_reducible rfl)
    (try simp only [Act.put, List.setIfInBounds_toArray, List.set_cons_zero, List.set_cons_succ])
    refine wpAnyH_take (i := 3) (oi := { dst := some 16, op := Go.Op.load 3 (Go.Operand.tmp 15), type := 3, pos := "engine.go:166", after := #[{ on := 2, ground := Go.Ground.data }], guard := none }) (v := ?_) rfl (by kernel_rfl) (by kernel_rfl) (by kernel_rfl) (fun _ _ _ h => h) (Or.inl ⟨by rfl, ?_⟩) (by assumption) ?_
    rotate_left
    · intro w hSw
      (try dsimp only at hSw)
      go_simp
      (try with_reducible rfl)
    (try simp only [Act.put, List.setIfInBounds_toArray, List.set_cons_zero, List.set_cons_succ])
    refine wpAnyH_take (i := 4) (oi := { dst := some 17, op := Go.Op.convert 3 22 (Go.Operand.tmp 16), type := 22, pos := "engine.go:166", after := #[{ on := 3, ground := Go.Ground.data }], guard := none }) (v := ?_) rfl (by kernel_rfl) (by kernel_rfl) (by kernel_rfl) (fun _ _ _ h => h) (Or.inl ⟨by rfl, ?_⟩) (by assumption) ?_
    rotate_left
    · intro w hSw
      (try dsimp only at hSw)
      go_simp
      (try with_reducible rfl)
    (try simp only [Act.put, List.setIfInBounds_toArray, List.set_cons_zero, List.set_cons_succ])
    refine wpAnyH_take (i := 6) (oi := { dst := some 19, op := Go.Op.fieldAddr 79 (Go.Operand.tmp 1) 1, type := 0, pos := "engine.go:166", after := #[], guard := none }) (v := ?_) rfl (by kernel_rfl) (by kernel_rfl) (by kernel_rfl) (fun _ _ _ h => h) (Or.inl ⟨by rfl, ?_⟩) (by assumption) ?_
    rotate_left
    · intro w hSw
      (try dsimp only at hSw)
      go_simp
      (try with_reducible rfl)
    (try simp only [Act.put, List.setIfInBounds_toArray, List.set_cons_zero, List.set_cons_succ])
    refine wpAnyH_take (i := 7) (oi := { dst := some 20, op := Go.Op.load 33 (Go.Operand.tmp 19), type := 33, pos := "engine.go:166", after := #[{ on := 6, ground := Go.Ground.data }], guard := none }) (v := ?_) rfl (by kernel_rfl) (by kernel_rfl) (by kernel_rfl) (fun _ _ _ h => h) (Or.inl ⟨by rfl, ?_⟩) (by assumption) ?_
    rotate_left
    · intro w hSw
      (try dsimp only at hSw)
      go_simp
      (try with_reducible rfl)
    (try simp only [Act.put, List.setIfInBounds_toArray, List.set_cons_zero, List.set_cons_succ])
    refine wpAnyH_take (i := 8) (oi := { dst := some 21, op := Go.Op.convert 33 22 (Go.Operand.tmp 20), type := 22, pos := "engine.go:166", after := #[{ on := 7, ground := Go.Ground.data }], guard := none }) (v := ?_) rfl (by kernel_rfl) (by kernel_rfl) (by kernel_rfl) (fun _ _ _ h => h) (Or.inl ⟨by rfl, ?_⟩) (by assumption) ?_
    rotate_left
    · intro w hSw
      (try dsimp only at hSw)
      go_simp
      (try with_reducible rfl)
    (try simp only [Act.put, List.setIfInBounds_toArray, List.set_cons_zero, List.set_cons_succ])
    refine wpAnyH_take (i := 10) (oi := { dst := some 23, op := Go.Op.fieldAddr 79 (Go.Operand.tmp 1) 0, type := 0, pos := "engine.go:166", after := #[], guard := none }) (v := ?_) rfl (by kernel_rfl) (by kernel_rfl) (by kernel_rfl) (fun _ _ _ h => h) (Or.inl ⟨by rfl, ?_⟩) (by assumption) ?_
    rotate_left
    · intro w hSw
      (try dsimp only at hSw)
      go_simp
      (try with_reducible rfl)
    (try simp only [Act.put, List.setIfInBounds_toArray, List.set_cons_zero, List.set_cons_succ])
    refine wpAnyH_take (i := 11) (oi := { dst := some 24, op := Go.Op.load 77 (Go.Operand.tmp 23), type := 77, pos := "engine.go:166", after := #[{ on := 10, ground := Go.Ground.data }], guard := none }) (v := ?_) rfl (by kernel_rfl) (by kernel_rfl) (by kernel_rfl) (fun _ _ _ h => h) (Or.inl ⟨by rfl, ?_⟩) (by assumption) ?_
    rotate_left
    · intro w hSw
      (try dsimp only at hSw)
      go_simp
      (try with_reducible rfl)
    (try simp only [Act.put, List.setIfInBounds_toArray, List.set_cons_zero, List.set_cons_succ])
    refine wpAnyH_take (i := 12) (oi := { dst := some 25, op := Go.Op.call { callee := Go.Callee.builtin Go.Builtin.len, args := #[Go.Operand.tmp 24], argTypes := #[77] }, type := 3, pos := "engine.go:166", after := #[{ on := 11, ground := Go.Ground.data }], guard := none }) (v := ?_) rfl (by kernel_rfl) (by kernel_rfl) (by kernel_rfl) (fun _ _ _ h => h) (Or.inl ⟨by rfl, ?_⟩) (by assumption) ?_
    rotate_left
    · intro w hSw
      (try dsimp only at hSw)
      go_simp
      (try with_reducible rfl)
    (try simp only [Act.put, List.setIfInBounds_toArray, List.set_cons_zero, List.set_cons_succ])
    refine wpAnyH_take (i := 13) (oi := { dst := some 26, op := Go.Op.convert 3 22 (Go.Operand.tmp 25), type := 22, pos := "engine.go:166", after := #[{ on := 12, ground := Go.Ground.data }], guard := none }) (v := ?_) rfl (by kernel_rfl) (by kernel_rfl) (by kernel_rfl) (fun _ _ _ h => h) (Or.inl ⟨by rfl, ?_⟩) (by assumption) ?_
    rotate_left
    · intro w hSw
      (try dsimp only at hSw)
      go_simp
      (try with_reducible rfl)
    (try simp only [Act.put, List.setIfInBounds_toArray, List.set_cons_zero, List.set_cons_succ])
    refine wpAnyH_ready (rs := [0, 5]) (by kernel_rfl) (by simp) ?_
    refine AllReadyH.cons (o := { dst := some 13, op := Go.Op.buildSlice 31 2 #[(0, Go.Operand.const (Go.Value.int Go.IntKind.u8 115)), (1, Go.Operand.const (Go.Value.int Go.IntKind.u8 101))], type := 31, pos := "engine.go:166", after := #[], guard := none }) rfl (fun K hK => ?_) ?_
    · skip
      go_simp
      (obtain ⟨w0_0, hw0_0⟩ : ∃ q, (w1.alloc (.cells #[.int .u8 115, .int .u8 101] 5)).drew = q := ⟨_, rfl⟩; rw [hw0_0]; have hb0_0 : Below w1.heap.size w1 w0_0 := (by rw [← hw0_0]; exact Below.drew ((Below.refl _ _).alloc (Nat.le_refl _) _)); have gl0_0 := Lib.hid (show w.heap.size < w1.heap.size from Blk.lt B0); have raw0_0 : Blk w0_0 w1.heap.size #[.int .u8 115, .int .u8 101] 5 := (by rw [← hw0_0]; exact Blk.drew (Blk.new _ _ _)); clear hw0_0; have B0_0 := Blk.below B0 hb0_0 (Blk.lt B0); have O0_0 := Below.trans O0 (hb0_0.mono O0.size); have x0_0_0 : w0_0.cell? ⟨w.heap.size, 0, none⟩ = some (.slice oa n cp) := Blk.cell B0_0 0; have x0_0_1 : w0_0.cell? ⟨w.heap.size, 1, none⟩ = some (.int .u32 (last : Int)) := Blk.cell B0_0 1; have x0_0_2 : w0_0.cell? ⟨w.heap.size, 2, none⟩ = some (.int .i64 (M : Int)) := Blk.cell B0_0 2; clear Bd Od x0_0 x0_1 x0_2 B0 O0 hb0_0; have cv0_0 := conv_self 2 2 raw0_0; skip)
      (try go_wp2_with fail)
      refine hK.out _ _ ?_ (fun hHeld => ?_)
      · (try dsimp only)
        go_keep
      clear hK K
      (try simp only [Act.put, List.setIfInBounds_toArray, List.set_cons_zero, List.set_cons_succ])
      refine wpAnyH_ready (rs := [1, 5]) (by kernel_rfl) (by simp) ?_
      refine AllReadyH.cons (o := { dst := some 14, op := Go.Op.convert 31 31 (Go.Operand.tmp 13), type := 31, pos := "engine.go:166", after := #[{ on := 0, ground := Go.Ground.data }], guard := none }) rfl (fun K hK => ?_) ?_
      · skip
        go_simp
        (obtain ⟨w1_0_1, hw1_0_1⟩ : ∃ q, w0_0.freeze ⟨w1.heap.size, 2, none⟩ 1 = q := ⟨_, rfl⟩; have hO1_0_1 : Own (w1.heap.size) w0_0 w1_0_1 := (by rw [← hw1_0_1]; exact own_freeze); have Hse1_0_1 : Bytes w1_0_1 (some ⟨w1.heap.size, 0, none⟩) 2 seF := (by rw [← hw1_0_1]; exact Bytes.freeze (se_bytes raw0_0)); have e1_0_1 : (Array.mk [Value.int .u8 115, Value.int .u8 101]).size = 2 := rfl; have B1_0_1 := Own.blk hO1_0_1 B0_0 (by have := gl0_0.out; omega); have O1_0_1 := Below.trans O0_0 (Own.below hO1_0_1 (by have := gl0_0.out; omega) O0_0.size); have x1_0_1_0 : w1_0_1.cell? ⟨w.heap.size, 0, none⟩ = some (.slice oa n cp) := Blk.cell B1_0_1 0; have x1_0_1_1 : w1_0_1.cell? ⟨w.heap.size, 1, none⟩ = some (.int .u32 (last : Int)) := Blk.cell B1_0_1 1; have x1_0_1_2 : w1_0_1.cell? ⟨w.heap.size, 2, none⟩ = some (.int .i64 (M : Int)) := Blk.cell B1_0_1 2; rw [hw1_0_1]; clear B0_0 O0_0 x0_0_0 x0_0_1 x0_0_2 raw0_0 cv0_0 hO1_0_1 e1_0_1 hw1_0_1; skip)
        (try go_wp2_with fail)
        refine hK.out _ _ ?_ (fun hHeld => ?_)
        · (try dsimp only)
          go_keep
        clear hK K
        (try simp only [Act.put, List.setIfInBounds_toArray, List.set_cons_zero, List.set_cons_succ])
        refine wpAnyH_ready (rs := [5]) (by kernel_rfl) (by simp) ?_
        refine AllReadyH.cons (o := { dst := some 18, op := Go.Op.call { callee := Go.Callee.value (Go.Operand.func 95), args := #[Go.Operand.tmp 17, Go.Operand.const (Go.Value.int Go.IntKind.i64 1)], argTypes := #[22, 3] }, type := 31, pos := "engine.go:166", after := #[{ on := 4, ground := Go.Ground.data }], guard := none }) rfl (fun K hK => ?_) AllReadyH.nil
        go_simp
        (refine (pnum_any M 1 _ HM.out (by decide) (by decide)).mono ?_; rintro e w5_0_1 ⟨rfl, hR5_0_1, hb5_0_1⟩; have B5_0_1 := Blk.below B1_0_1 hb5_0_1 (Blk.lt B1_0_1); have O5_0_1 := Below.trans O1_0_1 (hb5_0_1.mono O1_0_1.size); have Hse5_0_1 := Bytes.later Hse1_0_1 hb5_0_1; have Hm5_0_1 : Bytes w5_0_1 (some ⟨w1_0_1.heap.size, 0, none⟩) 1 (numB M 1) := Row.bytes hR5_0_1 (fun i _ => numB_lt _ _ i); have x5_0_1_0 : w5_0_1.cell? ⟨w.heap.size, 0, none⟩ = some (.slice oa n cp) := Blk.cell B5_0_1 0; have x5_0_1_1 : w5_0_1.cell? ⟨w.heap.size, 1, none⟩ = some (.int .u32 (last : Int)) := Blk.cell B5_0_1 1; have x5_0_1_2 : w5_0_1.cell? ⟨w.heap.size, 2, none⟩ = some (.int .i64 (M : Int)) := Blk.cell B5_0_1 2; clear B1_0_1 O1_0_1 x1_0_1_0 x1_0_1_1 x1_0_1_2 Hse1_0_1 hR5_0_1 hb5_0_1; skip)
        (try go_wp2_with fail)
        refine hK.out _ _ ?_ (fun hHeld => ?_)
        · (try dsimp only)
          go_keep
        clear hK K
        (try simp only [Act.put, List.setIfInBounds_toArray, List.set_cons_zero, List.set_cons_succ])
        refine wpAnyH_ready (rs := [9]) (by kernel_rfl) (by simp) ?_
        refine AllReadyH.cons (o := { dst := some 22, op := Go.Op.call { callee := Go.Callee.value (Go.Operand.func 95), args := #[Go.Operand.tmp 21, Go.Operand.const (Go.Value.int Go.IntKind.i64 4)], argTypes := #[22, 3] }, type := 31, pos := "engine.go:166", after := #[{ on := 8, ground := Go.Ground.data }, { on := 5, ground := Go.Ground.chain }], guard := none }) rfl (fun K hK => ?_) AllReadyH.nil
        go_simp
        (refine (pnum_any last 4 _ HL.out (by decide) (by decide)).mono ?_; rintro e w9_0_1 ⟨rfl, hR9_0_1, hb9_0_1⟩; have B9_0_1 := Blk.below B5_0_1 hb9_0_1 (Blk.lt B5_0_1); have O9_0_1 := Below.trans O5_0_1 (hb9_0_1.mono O5_0_1.size); have Hse9_0_1 := Bytes.later Hse5_0_1 hb9_0_1; have Hm9_0_1 := Bytes.later Hm5_0_1 hb9_0_1; have Hl9_0_1 : Bytes w9_0_1 (some ⟨w5_0_1.heap.size, 0, none⟩) 4 (numB last 4) := Row.bytes hR9_0_1 (fun i _ => numB_lt _ _ i); have x9_0_1_0 : w9_0_1.cell? ⟨w.heap.size, 0, none⟩ = some (.slice oa n cp) := Blk.cell B9_0_1 0; have x9_0_1_1 : w9_0_1.cell? ⟨w.heap.size, 1, none⟩ = some (.int .u32 (last : Int)) := Blk.cell B9_0_1 1; have x9_0_1_2 : w9_0_1.cell? ⟨w.heap.size, 2, none⟩ = some (.int .i64 (M : Int)) := Blk.cell B9_0_1 2; clear B5_0_1 O5_0_1 x5_0_1_0 x5_0_1_1 x5_0_1_2 Hse5_0_1 Hm5_0_1 hR9_0_1 hb9_0_1; skip)
        (try go_wp2_with fail)
        refine hK.out _ _ ?_ (fun hHeld => ?_)
        · (try dsimp only)
          go_keep
        clear hK K
        (try simp only [Act.put, List.setIfInBounds_toArray, List.set_cons_zero, List.set_cons_succ])
        refine wpAnyH_ready (rs := [14]) (by kernel_rfl) (by simp) ?_
        refine AllReadyH.cons (o := { dst := some 27, op := Go.Op.call { callee := Go.Callee.value (Go.Operand.func 95), args := #[Go.Operand.tmp 26, Go.Operand.const (Go.Value.int Go.IntKind.i64 1)], argTypes := #[22, 3] }, type := 31, pos := "engine.go:166", after := #[{ on := 13, ground := Go.Ground.data }, { on := 9, ground := Go.Ground.chain }], guard := none }) rfl (fun K hK => ?_) AllReadyH.nil
        go_simp
        (refine (pnum_any n 1 _ HN.out (by decide) (by decide)).mono ?_; rintro e w14_0_1 ⟨rfl, hR14_0_1, hb14_0_1⟩; have B14_0_1 := Blk.below B9_0_1 hb14_0_1 (Blk.lt B9_0_1); have O14_0_1 := Below.trans O9_0_1 (hb14_0_1.mono O9_0_1.size); have Hse14_0_1 := Bytes.later Hse9_0_1 hb14_0_1; have Hm14_0_1 := Bytes.later Hm9_0_1 hb14_0_1; have Hl14_0_1 := Bytes.later Hl9_0_1 hb14_0_1; have Hc14_0_1 : Bytes w14_0_1 (some ⟨w9_0_1.heap.size, 0, none⟩) 1 (numB n 1) := Row.bytes hR14_0_1 (fun i _ => numB_lt _ _ i); have x14_0_1_0 : w14_0_1.cell? ⟨w.heap.size, 0, none⟩ = some (.slice oa n cp) := Blk.cell B14_0_1 0; have x14_0_1_1 : w14_0_1.cell? ⟨w.heap.size, 1, none⟩ = some (.int .u32 (last : Int)) := Blk.cell B14_0_1 1; have x14_0_1_2 : w14_0_1.cell? ⟨w.heap.size, 2, none⟩ = some (.int .i64 (M : Int)) := Blk.cell B14_0_1 2; clear B9_0_1 O9_0_1 x9_0_1_0 x9_0_1_1 x9_0_1_2 Hse9_0_1 Hm9_0_1 Hl9_0_1 hR14_0_1 hb14_0_1; skip)
        (try go_wp2_with fail)
        refine hK.out _ _ ?_ (fun hHeld => ?_)
        · (try dsimp only)
          go_keep
        clear hK K
        (try simp only [Act.put, List.setIfInBounds_toArray, List.set_cons_zero, List.set_cons_succ])
        refine wpAnyH_ready (rs := [15]) (by kernel_rfl) (by simp) ?_
        refine AllReadyH.cons (o := { dst := some 28, op := Go.Op.buildSlice 207 4 #[(0, Go.Operand.tmp 14), (1, Go.Operand.tmp 18), (2, Go.Operand.tmp 22), (3, Go.Operand.tmp 27)], type := 207, pos := "engine.go:166", after := #[{ on := 1, ground := Go.Ground.data }, { on := 5, ground := Go.Ground.data }, { on := 9, ground := Go.Ground.data }, { on := 14, ground := Go.Ground.data }], guard := none }) rfl (fun K hK => ?_) AllReadyH.nil
        go_simp
        (have hP15_0_1 := parts4 (c0 := 2) (c1 := 1) (c2 := 4) (c3 := 1) Hse14_0_1 Hm14_0_1 Hl14_0_1 Hc14_0_1 w14_0_1.heap.size rfl; obtain ⟨w15_0_1, hw15_0_1⟩ : ∃ q, w14_0_1.alloc (.cells #[.slice (some ⟨w1.heap.size, 0, none⟩) 2 2, .slice (some ⟨w1_0_1.heap.size, 0, none⟩) 1 1, .slice (some ⟨w5_0_1.heap.size, 0, none⟩) 4 4, .slice (some ⟨w9_0_1.heap.size, 0, none⟩) 1 1] 31) = q := ⟨_, rfl⟩; rw [hw15_0_1] at hP15_0_1; rw [hw15_0_1]; have hb15_0_1 : Below w14_0_1.heap.size w14_0_1 w15_0_1 := (by rw [← hw15_0_1]; exact (Below.refl _ _).alloc (Nat.le_refl _) _); clear hw15_0_1; have B15_0_1 := Blk.below B14_0_1 hb15_0_1 (Blk.lt B14_0_1); have O15_0_1 := Below.trans O14_0_1 (hb15_0_1.mono O14_0_1.size); have x15_0_1_0 : w15_0_1.cell? ⟨w.heap.size, 0, none⟩ = some (.slice oa n cp) := Blk.cell B15_0_1 0; have x15_0_1_1 : w15_0_1.cell? ⟨w.heap.size, 1, none⟩ = some (.int .u32 (last : Int)) := Blk.cell B15_0_1 1; have x15_0_1_2 : w15_0_1.cell? ⟨w.heap.size, 2, none⟩ = some (.int .i64 (M : Int)) := Blk.cell B15_0_1 2; clear B14_0_1 O14_0_1 x14_0_1_0 x14_0_1_1 x14_0_1_2 Hse14_0_1 Hm14_0_1 Hl14_0_1 Hc14_0_1 hb15_0_1; skip)
        (try go_wp2_with fail)
        refine hK.out _ _ ?_ (fun hHeld => ?_)
        · (try dsimp only)
          go_keep
        clear hK K
        (try simp only [Act.put, List.setIfInBounds_toArray, List.set_cons_zero, List.set_cons_succ])
        refine wpAnyH_ready (rs := [16]) (by kernel_rfl) (by simp) ?_
        refine AllReadyH.cons (o := { dst := some 29, op := Go.Op.call { callee := Go.Callee.value (Go.Operand.func 94), args := #[Go.Operand.tmp 28], argTypes := #[207] }, type := 31, pos := "engine.go:166", after := #[{ on := 15, ground := Go.Ground.data }, { on := 14, ground := Go.Ground.chain }], guard := none }) rfl (fun K hK => ?_) AllReadyH.nil
        go_simp
        (refine (pjoin_any _ 0 4 4 (p4 2 1 4 1) (p4 seF (numB M 1) (numB last 4) (numB n 1)) _ (by decide) (fun i _ => by unfold p4; split <;> (try split) <;> (try split) <;> decide) hP15_0_1).mono ?_; rintro e w16_0_1 ⟨v16_0_1, rfl, hG16_0_1, hb16_0_1⟩; have E16_0_1 : EB w w.heap.size #[.slice oa n cp, .int .u32 (last : Int), .int .i64 (M : Int)] 79 (encL V 0) (encF n last M V 0) v16_0_1 w16_0_1 := EB.mk hG16_0_1 (Nat.succ_pos 7) (enc_head_eq HN8.out HM8.out) HLT0.out B15_0_1 hb16_0_1 O15_0_1; have B16_0_1 := Blk.below B15_0_1 hb16_0_1 (Blk.lt B15_0_1); have x16_0_1_0 : w16_0_1.cell? ⟨w.heap.size, 0, none⟩ = some (.slice oa n cp) := Blk.cell B16_0_1 0; have x16_0_1_1 : w16_0_1.cell? ⟨w.heap.size, 1, none⟩ = some (.int .u32 (last : Int)) := Blk.cell B16_0_1 1; have x16_0_1_2 : w16_0_1.cell? ⟨w.heap.size, 2, none⟩ = some (.int .i64 (M : Int)) := Blk.cell B16_0_1 2; clear B15_0_1 O15_0_1 x15_0_1_0 x15_0_1_1 x15_0_1_2 hP15_0_1 hG16_0_1 hb16_0_1 B16_0_1; skip)
        (try go_wp2_with fail)
        refine hK.out _ _ ?_ (fun hHeld => ?_)
        · (try dsimp only)
          go_keep
        clear hK K
        (try simp only [Act.put, List.setIfInBounds_toArray, List.set_cons_zero, List.set_cons_succ])
        refine wpAnyH_take (i := 17) (oi := { dst := some 5, op := Go.Op.assign (Go.Operand.tmp 29), type := 31, pos := "engine.go:166", after := #[{ on := 16, ground := Go.Ground.data }, { on := 16, ground := Go.Ground.chain }, { on := 0, ground := Go.Ground.phase }, { on := 1, ground := Go.Ground.phase }, { on := 2, ground := Go.Ground.phase }, { on := 3, ground := Go.Ground.phase }, { on := 4, ground := Go.Ground.phase }, { on := 5, ground := Go.Ground.phase }, { on := 6, ground := Go.Ground.phase }, { on := 7, ground := Go.Ground.phase }, { on := 8, ground := Go.Ground.phase }, { on := 9, ground := Go.Ground.phase }, { on := 10, ground := Go.Ground.phase }, { on := 11, ground := Go.Ground.phase }, { on := 12, ground := Go.Ground.phase }, { on := 13, ground := Go.Ground.phase }, { on := 14, ground := Go.Ground.phase }, { on := 15, ground := Go.Ground.phase }, { on := 16, ground := Go.Ground.phase }], guard := none }) (v := ?_) rfl (by kernel_rfl) (by kernel_rfl) (by kernel_rfl) (fun _ _ _ h => h) (Or.inl ⟨by rfl, ?_⟩) (by assumption) ?_
        rotate_left
        · intro w hSw
          (try dsimp only at hSw)
          go_simp
          (try with_reducible rfl)
        (try simp only [Act.put, List.setIfInBounds_toArray, List.set_cons_zero, List.set_cons_succ])
        refine wpAnyH_done (by kernel_rfl) ?_ _
        clear x16_0_1_0 x16_0_1_1 x16_0_1_2
        go_wp2_with fail
        go_meet
        exact E16_0_1
      refine AllReadyH.cons (o := { dst := some 18, op := Go.Op.call { callee := Go.Callee.value (Go.Operand.func 95), args := #[Go.Operand.tmp 17, Go.Operand.const (Go.Value.int Go.IntKind.i64 1)], argTypes := #[22, 3] }, type := 31, pos := "engine.go:166", after := #[{ on := 4, ground := Go.Ground.data }], guard := none }) rfl (fun K hK => ?_) AllReadyH.nil
      go_simp
      (refine (pnum_any M 1 _ HM.out (by decide) (by decide)).mono ?_; rintro e w5_0_5 ⟨rfl, hR5_0_5, hb5_0_5⟩; have B5_0_5 := Blk.below B0_0 hb5_0_5 (Blk.lt B0_0); have O5_0_5 := Below.trans O0_0 (hb5_0_5.mono O0_0.size); have Hm5_0_5 : Bytes w5_0_5 (some ⟨w0_0.heap.size, 0, none⟩) 1 (numB M 1) := Row.bytes hR5_0_5 (fun i _ => numB_lt _ _ i); have raw5_0_5 := Blk.below raw0_0 hb5_0_5 (Blk.lt raw0_0); have cv5_0_5 := conv_self 2 2 raw5_0_5; have x5_0_5_0 : w5_0_5.cell? ⟨w.heap.size, 0, none⟩ = some (.slice oa n cp) := Blk.cell B5_0_5 0; have x5_0_5_1 : w5_0_5.cell? ⟨w.heap.size, 1, none⟩ = some (.int .u32 (last : Int)) := Blk.cell B5_0_5 1; have x5_0_5_2 : w5_0_5.cell? ⟨w.heap.size, 2, none⟩ = some (.int .i64 (M : Int)) := Blk.cell B5_0_5 2; clear B0_0 O0_0 x0_0_0 x0_0_1 x0_0_2 raw0_0 cv0_0 hR5_0_5 hb5_0_5; skip)
      (try go_wp2_with fail)
      refine hK.out _ _ ?_ (fun hHeld => ?_)
      · (try dsimp only)
        go_keep
      clear hK K
      (try simp only [Act.put, List.setIfInBounds_toArray, List.set_cons_zero, List.set_cons_succ])
      refine wpAnyH_ready (rs := [1, 9]) (by kernel_rfl) (by simp) ?_
      refine AllReadyH.cons (o := { dst := some 14, op := Go.Op.convert 31 31 (Go.Operand.tmp 13), type := 31, pos := "engine.go:166", after := #[{ on := 0, ground := Go.Ground.data }], guard := none }) rfl (fun K hK => ?_) ?_
      · skip
        go_simp
        (obtain ⟨w1_0_5_1, hw1_0_5_1⟩ : ∃ q, w5_0_5.freeze ⟨w1.heap.size, 2, none⟩ 1 = q := ⟨_, rfl⟩; have hO1_0_5_1 : Own (w1.heap.size) w5_0_5 w1_0_5_1 := (by rw [← hw1_0_5_1]; exact own_freeze); have Hse1_0_5_1 : Bytes w1_0_5_1 (some ⟨w1.heap.size, 0, none⟩) 2 seF := (by rw [← hw1_0_5_1]; exact Bytes.freeze (se_bytes raw5_0_5)); have Hm1_0_5_1 : Bytes w1_0_5_1 _ _ _ := (by rw [← hw1_0_5_1]; exact Bytes.freeze Hm5_0_5); have e1_0_5_1 : (Array.mk [Value.int .u8 115, Value.int .u8 101]).size = 2 := rfl; have B1_0_5_1 := Own.blk hO1_0_5_1 B5_0_5 (by have := gl0_0.out; omega); have O1_0_5_1 := Below.trans O5_0_5 (Own.below hO1_0_5_1 (by have := gl0_0.out; omega) O5_0_5.size); have x1_0_5_1_0 : w1_0_5_1.cell? ⟨w.heap.size, 0, none⟩ = some (.slice oa n cp) := Blk.cell B1_0_5_1 0; have x1_0_5_1_1 : w1_0_5_1.cell? ⟨w.heap.size, 1, none⟩ = some (.int .u32 (last : Int)) := Blk.cell B1_0_5_1 1; have x1_0_5_1_2 : w1_0_5_1.cell? ⟨w.heap.size, 2, none⟩ = some (.int .i64 (M : Int)) := Blk.cell B1_0_5_1 2; rw [hw1_0_5_1]; clear B5_0_5 O5_0_5 x5_0_5_0 x5_0_5_1 x5_0_5_2 Hm5_0_5 raw5_0_5 cv5_0_5 hO1_0_5_1 e1_0_5_1 hw1_0_5_1; skip)
        (try go_wp2_with fail)
        refine hK.out _ _ ?_ (fun hHeld => ?_)
        · (try dsimp only)
          go_keep
        clear hK K
        (try simp only [Act.put, List.setIfInBounds_toArray, List.set_cons_zero, List.set_cons_succ])
        refine wpAnyH_ready (rs := [9]) (by kernel_rfl) (by simp) ?_
        refine AllReadyH.cons (o := { dst := some 22, op := Go.Op.call { callee := Go.Callee.value (Go.Operand.func 95), args := #[Go.Operand.tmp 21, Go.Operand.const (Go.Value.int Go.IntKind.i64 4)], argTypes := #[22, 3] }, type := 31, pos := "engine.go:166", after := #[{ on := 8, ground := Go.Ground.data }, { on := 5, ground := Go.Ground.chain }], guard := none }) rfl (fun K hK => ?_) AllReadyH.nil
        go_simp
        (refine (pnum_any last 4 _ HL.out (by decide) (by decide)).mono ?_; rintro e w9_0_5_1 ⟨rfl, hR9_0_5_1, hb9_0_5_1⟩; have B9_0_5_1 := Blk.below B1_0_5_1 hb9_0_5_1 (Blk.lt B1_0_5_1); have O9_0_5_1 := Below.trans O1_0_5_1 (hb9_0_5_1.mono O1_0_5_1.size); have Hm9_0_5_1 := Bytes.later Hm1_0_5_1 hb9_0_5_1; have Hse9_0_5_1 := Bytes.later Hse1_0_5_1 hb9_0_5_1; have Hl9_0_5_1 : Bytes w9_0_5_1 (some ⟨w1_0_5_1.heap.size, 0, none⟩) 4 (numB last 4) := Row.bytes hR9_0_5_1 (fun i _ => numB_lt _ _ i); have x9_0_5_1_0 : w9_0_5_1.cell? ⟨w.heap.size, 0, none⟩ = some (.slice oa n cp) := Blk.cell B9_0_5_1 0; have x9_0_5_1_1 : w9_0_5_1.cell? ⟨w.heap.size, 1, none⟩ = some (.int .u32 (last : Int)) := Blk.cell B9_0_5_1 1; have x9_0_5_1_2 : w9_0_5_1.cell? ⟨w.heap.size, 2, none⟩ = some (.int .i64 (M : Int)) := Blk.cell B9_0_5_1 2; clear B1_0_5_1 O1_0_5_1 x1_0_5_1_0 x1_0_5_1_1 x1_0_5_1_2 Hm1_0_5_1 Hse1_0_5_1 hR9_0_5_1 hb9_0_5_1; skip)
        (try go_wp2_with fail)
        refine hK.out _ _ ?_ (fun hHeld => ?_)
        · (try dsimp only)
          go_keep
        clear hK K
        (try simp only [Act.put, List.setIfInBounds_toArray, List.set_cons_zero, List.set_cons_succ])
        refine wpAnyH_ready (rs := [14]) (by kernel_rfl) (by simp) ?_
        refine AllReadyH.cons (o := { dst := some 27, op := Go.Op.call { callee := Go.Callee.value (Go.Operand.func 95), args := #[Go.Operand.tmp 26, Go.Operand.const (Go.Value.int Go.IntKind.i64 1)], argTypes := #[22, 3] }, type := 31, pos := "engine.go:166", after := #[{ on := 13, ground := Go.Ground.data }, { on := 9, ground := Go.Ground.chain }], guard := none }) rfl (fun K hK => ?_) AllReadyH.nil
        go_simp
        (refine (pnum_any n 1 _ HN.out (by decide) (by decide)).mono ?_; rintro e w14_0_5_1 ⟨rfl, hR14_0_5_1, hb14_0_5_1⟩; have B14_0_5_1 := Blk.below B9_0_5_1 hb14_0_5_1 (Blk.lt B9_0_5_1); have O14_0_5_1 := Below.trans O9_0_5_1 (hb14_0_5_1.mono O9_0_5_1.size); have Hm14_0_5_1 := Bytes.later Hm9_0_5_1 hb14_0_5_1; have Hse14_0_5_1 := Bytes.later Hse9_0_5_1 hb14_0_5_1; have Hl14_0_5_1 := Bytes.later Hl9_0_5_1 hb14_0_5_1; have Hc14_0_5_1 : Bytes w14_0_5_1 (some ⟨w9_0_5_1.heap.size, 0, none⟩) 1 (numB n 1) := Row.bytes hR14_0_5_1 (fun i _ => numB_lt _ _ i); have x14_0_5_1_0 : w14_0_5_1.cell? ⟨w.heap.size, 0, none⟩ = some (.slice oa n cp) := Blk.cell B14_0_5_1 0; have x14_0_5_1_1 : w14_0_5_1.cell? ⟨w.heap.size, 1, none⟩ = some (.int .u32 (last : Int)) := Blk.cell B14_0_5_1 1; have x14_0_5_1_2 : w14_0_5_1.cell? ⟨w.heap.size, 2, none⟩ = some (.int .i64 (M : Int)) := Blk.cell B14_0_5_1 2; clear B9_0_5_1 O9_0_5_1 x9_0_5_1_0 x9_0_5_1_1 x9_0_5_1_2 Hm9_0_5_1 Hse9_0_5_1 Hl9_0_5_1 hR14_0_5_1 hb14_0_5_1; skip)
        (try go_wp2_with fail)
        refine hK.out _ _ ?_ (fun hHeld => ?_)
        · (try dsimp only)
          go_keep
        clear hK K
        (try simp only [Act.put, List.setIfInBounds_toArray, List.set_cons_zero, List.set_cons_succ])
        refine wpAnyH_ready (rs := [15]) (by kernel_rfl) (by simp) ?_
        refine AllReadyH.cons (o := { dst := some 28, op := Go.Op.buildSlice 207 4 #[(0, Go.Operand.tmp 14), (1, Go.Operand.tmp 18), (2, Go.Operand.tmp 22), (3, Go.Operand.tmp 27)], type := 207, pos := "engine.go:166", after := #[{ on := 1, ground := Go.Ground.data }, { on := 5, ground := Go.Ground.data }, { on := 9, ground := Go.Ground.data }, { on := 14, ground := Go.Ground.data }], guard := none }) rfl (fun K hK => ?_) AllReadyH.nil
        go_simp
        (have hP15_0_5_1 := parts4 (c0 := 2) (c1 := 1) (c2 := 4) (c3 := 1) Hse14_0_5_1 Hm14_0_5_1 Hl14_0_5_1 Hc14_0_5_1 w14_0_5_1.heap.size rfl; obtain ⟨w15_0_5_1, hw15_0_5_1⟩ : ∃ q, w14_0_5_1.alloc (.cells #[.slice (some ⟨w1.heap.size, 0, none⟩) 2 2, .slice (some ⟨w0_0.heap.size, 0, none⟩) 1 1, .slice (some ⟨w1_0_5_1.heap.size, 0, none⟩) 4 4, .slice (some ⟨w9_0_5_1.heap.size, 0, none⟩) 1 1] 31) = q := ⟨_, rfl⟩; rw [hw15_0_5_1] at hP15_0_5_1; rw [hw15_0_5_1]; have hb15_0_5_1 : Below w14_0_5_1.heap.size w14_0_5_1 w15_0_5_1 := (by rw [← hw15_0_5_1]; exact (Below.refl _ _).alloc (Nat.le_refl _) _); clear hw15_0_5_1; have B15_0_5_1 := Blk.below B14_0_5_1 hb15_0_5_1 (Blk.lt B14_0_5_1); have O15_0_5_1 := Below.trans O14_0_5_1 (hb15_0_5_1.mono O14_0_5_1.size); have x15_0_5_1_0 : w15_0_5_1.cell? ⟨w.heap.size, 0, none⟩ = some (.slice oa n cp) := Blk.cell B15_0_5_1 0; have x15_0_5_1_1 : w15_0_5_1.cell? ⟨w.heap.size, 1, none⟩ = some (.int .u32 (last : Int)) := Blk.cell B15_0_5_1 1; have x15_0_5_1_2 : w15_0_5_1.cell? ⟨w.heap.size, 2, none⟩ = some (.int .i64 (M : Int)) := Blk.cell B15_0_5_1 2; clear B14_0_5_1 O14_0_5_1 x14_0_5_1_0 x14_0_5_1_1 x14_0_5_1_2 Hm14_0_5_1 Hse14_0_5_1 Hl14_0_5_1 Hc14_0_5_1 hb15_0_5_1; skip)
        (try go_wp2_with fail)
        refine hK.out _ _ ?_ (fun hHeld => ?_)
        · (try dsimp only)
          go_keep
        clear hK K
        (try simp only [Act.put, List.setIfInBounds_toArray, List.set_cons_zero, List.set_cons_succ])
        refine wpAnyH_ready (rs := [16]) (by kernel_rfl) (by simp) ?_
        refine AllReadyH.cons (o := { dst := some 29, op := Go.Op.call { callee := Go.Callee.value (Go.Operand.func 94), args := #[Go.Operand.tmp 28], argTypes := #[207] }, type := 31, pos := "engine.go:166", after := #[{ on := 15, ground := Go.Ground.data }, { on := 14, ground := Go.Ground.chain }], guard := none }) rfl (fun K hK => ?_) AllReadyH.nil
        go_simp
        (refine (pjoin_any _ 0 4 4 (p4 2 1 4 1) (p4 seF (numB M 1) (numB last 4) (numB n 1)) _ (by decide) (fun i _ => by unfold p4; split <;> (try split) <;> (try split) <;> decide) hP15_0_5_1).mono ?_; rintro e w16_0_5_1 ⟨v16_0_5_1, rfl, hG16_0_5_1, hb16_0_5_1⟩; have E16_0_5_1 : EB w w.heap.size #[.slice oa n cp, .int .u32 (last : Int), .int .i64 (M : Int)] 79 (encL V 0) (encF n last M V 0) v16_0_5_1 w16_0_5_1 := EB.mk hG16_0_5_1 (Nat.succ_pos 7) (enc_head_eq HN8.out HM8.out) HLT0.out B15_0_5_1 hb16_0_5_1 O15_0_5_1; have B16_0_5_1 := Blk.below B15_0_5_1 hb16_0_5_1 (Blk.lt B15_0_5_1); have x16_0_5_1_0 : w16_0_5_1.cell? ⟨w.heap.size, 0, none⟩ = some (.slice oa n cp) := Blk.cell B16_0_5_1 0; have x16_0_5_1_1 : w16_0_5_1.cell? ⟨w.heap.size, 1, none⟩ = some (.int .u32 (last : Int)) := Blk.cell B16_0_5_1 1; have x16_0_5_1_2 : w16_0_5_1.cell? ⟨w.heap.size, 2, none⟩ = some (.int .i64 (M : Int)) := Blk.cell B16_0_5_1 2; clear B15_0_5_1 O15_0_5_1 x15_0_5_1_0 x15_0_5_1_1 x15_0_5_1_2 hP15_0_5_1 hG16_0_5_1 hb16_0_5_1 B16_0_5_1; skip)
        (try go_wp2_with fail)
        refine hK.out _ _ ?_ (fun hHeld => ?_)
        · (try dsimp only)
          go_keep
        clear hK K
        (try simp only [Act.put, List.setIfInBounds_toArray, List.set_cons_zero, List.set_cons_succ])
        refine wpAnyH_take (i := 17) (oi := { dst := some 5, op := Go.Op.assign (Go.Operand.tmp 29), type := 31, pos := "engine.go:166", after := #[{ on := 16, ground := Go.Ground.data }, { on := 16, ground := Go.Ground.chain }, { on := 0, ground := Go.Ground.phase }, { on := 1, ground := Go.Ground.phase }, { on := 2, ground := Go.Ground.phase }, { on := 3, ground := Go.Ground.phase }, { on := 4, ground := Go.Ground.phase }, { on := 5, ground := Go.Ground.phase }, { on := 6, ground := Go.Ground.phase }, { on := 7, ground := Go.Ground.phase }, { on := 8, ground := Go.Ground.phase }, { on := 9, ground := Go.Ground.phase }, { on := 10, ground := Go.Ground.phase }, { on := 11, ground := Go.Ground.phase }, { on := 12, ground := Go.Ground.phase }, { on := 13, ground := Go.Ground.phase }, { on := 14, ground := Go.Ground.phase }, { on := 15, ground := Go.Ground.phase }, { on := 16, ground := Go.Ground.phase }], guard := none }) (v := ?_) rfl (by kernel_rfl) (by kernel_rfl) (by kernel_rfl) (fun _ _ _ h => h) (Or.inl ⟨by rfl, ?_⟩) (by assumption) ?_
        rotate_left
        · intro w hSw
          (try dsimp only at hSw)
          go_simp
          (try with_reducible rfl)
        (try simp only [Act.put, List.setIfInBounds_toArray, List.set_cons_zero, List.set_cons_succ])
        refine wpAnyH_done (by kernel_rfl) ?_ _
        clear x16_0_5_1_0 x16_0_5_1_1 x16_0_5_1_2
        go_wp2_with fail
        go_meet
        exact E16_0_5_1
      refine AllReadyH.cons (o := { dst := some 22, op := Go.Op.call { callee := Go.Callee.value (Go.Operand.func 95), args := #[Go.Operand.tmp 21, Go.Operand.const (Go.Value.int Go.IntKind.i64 4)], argTypes := #[22, 3] }, type := 31, pos := "engine.go:166", after := #[{ on := 8, ground := Go.Ground.data }, { on := 5, ground := Go.Ground.chain }], guard := none }) rfl (fun K hK => ?_) AllReadyH.nil
      go_simp
      (refine (pnum_any last 4 _ HL.out (by decide) (by decide)).mono ?_; rintro e w9_0_5_9 ⟨rfl, hR9_0_5_9, hb9_0_5_9⟩; have B9_0_5_9 := Blk.below B5_0_5 hb9_0_5_9 (Blk.lt B5_0_5); have O9_0_5_9 := Below.trans O5_0_5 (hb9_0_5_9.mono O5_0_5.size); have Hm9_0_5_9 := Bytes.later Hm5_0_5 hb9_0_5_9; have Hl9_0_5_9 : Bytes w9_0_5_9 (some ⟨w5_0_5.heap.size, 0, none⟩) 4 (numB last 4) := Row.bytes hR9_0_5_9 (fun i _ => numB_lt _ _ i); have raw9_0_5_9 := Blk.below raw5_0_5 hb9_0_5_9 (Blk.lt raw5_0_5); have cv9_0_5_9 := conv_self 2 2 raw9_0_5_9; have x9_0_5_9_0 : w9_0_5_9.cell? ⟨w.heap.size, 0, none⟩ = some (.slice oa n cp) := Blk.cell B9_0_5_9 0; have x9_0_5_9_1 : w9_0_5_9.cell? ⟨w.heap.size, 1, none⟩ = some (.int .u32 (last : Int)) := Blk.cell B9_0_5_9 1; have x9_0_5_9_2 : w9_0_5_9.cell? ⟨w.heap.size, 2, none⟩ = some (.int .i64 (M : Int)) := Blk.cell B9_0_5_9 2; clear B5_0_5 O5_0_5 x5_0_5_0 x5_0_5_1 x5_0_5_2 Hm5_0_5 raw5_0_5 cv5_0_5 hR9_0_5_9 hb9_0_5_9; skip)
      (try go_wp2_with fail)
      refine hK.out _ _ ?_ (fun hHeld => ?_)
      · (try dsimp only)
        go_keep
      clear hK K
      (try simp only [Act.put, List.setIfInBounds_toArray, List.set_cons_zero, List.set_cons_succ])
      refine wpAnyH_ready (rs := [1, 14]) (by kernel_rfl) (by simp) ?_
      refine AllReadyH.cons (o := { dst := some 14, op := Go.Op.convert 31 31 (Go.Operand.tmp 13), type := 31, pos := "engine.go:166", after := #[{ on := 0, ground := Go.Ground.data }], guard := none }) rfl (fun K hK => ?_) ?_
      · skip
        go_simp
        (obtain ⟨w1_0_5_9_1, hw1_0_5_9_1⟩ : ∃ q, w9_0_5_9.freeze ⟨w1.heap.size, 2, none⟩ 1 = q := ⟨_, rfl⟩; have hO1_0_5_9_1 : Own (w1.heap.size) w9_0_5_9 w1_0_5_9_1 := (by rw [← hw1_0_5_9_1]; exact own_freeze); have Hse1_0_5_9_1 : Bytes w1_0_5_9_1 (some ⟨w1.heap.size, 0, none⟩) 2 seF := (by rw [← hw1_0_5_9_1]; exact Bytes.freeze (se_bytes raw9_0_5_9)); have Hm1_0_5_9_1 : Bytes w1_0_5_9_1 _ _ _ := (by rw [← hw1_0_5_9_1]; exact Bytes.freeze Hm9_0_5_9); have Hl1_0_5_9_1 : Bytes w1_0_5_9_1 _ _ _ := (by rw [← hw1_0_5_9_1]; exact Bytes.freeze Hl9_0_5_9); have e1_0_5_9_1 : (Array.mk [Value.int .u8 115, Value.int .u8 101]).size = 2 := rfl; have B1_0_5_9_1 := Own.blk hO1_0_5_9_1 B9_0_5_9 (by have := gl0_0.out; omega); have O1_0_5_9_1 := Below.trans O9_0_5_9 (Own.below hO1_0_5_9_1 (by have := gl0_0.out; omega) O9_0_5_9.size); have x1_0_5_9_1_0 : w1_0_5_9_1.cell? ⟨w.heap.size, 0, none⟩ = some (.slice oa n cp) := Blk.cell B1_0_5_9_1 0; have x1_0_5_9_1_1 : w1_0_5_9_1.cell? ⟨w.heap.size, 1, none⟩ = some (.int .u32 (last : Int)) := Blk.cell B1_0_5_9_1 1; have x1_0_5_9_1_2 : w1_0_5_9_1.cell? ⟨w.heap.size, 2, none⟩ = some (.int .i64 (M : Int)) := Blk.cell B1_0_5_9_1 2; rw [hw1_0_5_9_1]; clear B9_0_5_9 O9_0_5_9 x9_0_5_9_0 x9_0_5_9_1 x9_0_5_9_2 Hm9_0_5_9 Hl9_0_5_9 raw9_0_5_9 cv9_0_5_9 hO1_0_5_9_1 e1_0_5_9_1 hw1_0_5_9_1; skip)
        (try go_wp2_with fail)
        refine hK.out _ _ ?_ (fun hHeld => ?_)
        · (try dsimp only)
          go_keep
        clear hK K
        (try simp only [Act.put, List.setIfInBounds_toArray, List.set_cons_zero, List.set_cons_succ])
        refine wpAnyH_ready (rs := [14]) (by kernel_rfl) (by simp) ?_
        refine AllReadyH.cons (o := { dst := some 27, op := Go.Op.call { callee := Go.Callee.value (Go.Operand.func 95), args := #[Go.Operand.tmp 26, Go.Operand.const (Go.Value.int Go.IntKind.i64 1)], argTypes := #[22, 3] }, type := 31, pos := "engine.go:166", after := #[{ on := 13, ground := Go.Ground.data }, { on := 9, ground := Go.Ground.chain }], guard := none }) rfl (fun K hK => ?_) AllReadyH.nil
        go_simp
        (refine (pnum_any n 1 _ HN.out (by decide) (by decide)).mono ?_; rintro e w14_0_5_9_1 ⟨rfl, hR14_0_5_9_1, hb14_0_5_9_1⟩; have B14_0_5_9_1 := Blk.below B1_0_5_9_1 hb14_0_5_9_1 (Blk.lt B1_0_5_9_1); have O14_0_5_9_1 := Below.trans O1_0_5_9_1 (hb14_0_5_9_1.mono O1_0_5_9_1.size); have Hm14_0_5_9_1 := Bytes.later Hm1_0_5_9_1 hb14_0_5_9_1; have Hl14_0_5_9_1 := Bytes.later Hl1_0_5_9_1 hb14_0_5_9_1; have Hse14_0_5_9_1 := Bytes.later Hse1_0_5_9_1 hb14_0_5_9_1; have Hc14_0_5_9_1 : Bytes w14_0_5_9_1 (some ⟨w1_0_5_9_1.heap.size, 0, none⟩) 1 (numB n 1) := Row.bytes hR14_0_5_9_1 (fun i _ => numB_lt _ _ i); have x14_0_5_9_1_0 : w14_0_5_9_1.cell? ⟨w.heap.size, 0, none⟩ = some (.slice oa n cp) := Blk.cell B14_0_5_9_1 0; have x14_0_5_9_1_1 : w14_0_5_9_1.cell? ⟨w.heap.size, 1, none⟩ = some (.int .u32 (last : Int)) := Blk.cell B14_0_5_9_1 1; have x14_0_5_9_1_2 : w14_0_5_9_1.cell? ⟨w.heap.size, 2, none⟩ = some (.int .i64 (M : Int)) := Blk.cell B14_0_5_9_1 2; clear B1_0_5_9_1 O1_0_5_9_1 x1_0_5_9_1_0 x1_0_5_9_1_1 x1_0_5_9_1_2 Hm1_0_5_9_1 Hl1_0_5_9_1 Hse1_0_5_9_1 hR14_0_5_9_1 hb14_0_5_9_1; skip)
        (try go_wp2_with fail)
        refine hK.out _ _ ?_ (fun hHeld => ?_)
        · (try dsimp only)
          go_keep
        clear hK K
        (try simp only [Act.put, List.setIfInBounds_toArray, List.set_cons_zero, List.set_cons_succ])
        refine wpAnyH_ready (rs := [15]) (by kernel_rfl) (by simp) ?_
        refine AllReadyH.cons (o := { dst := some 28, op := Go.Op.buildSlice 207 4 #[(0, Go.Operand.tmp 14), (1, Go.Operand.tmp 18), (2, Go.Operand.tmp 22), (3, Go.Operand.tmp 27)], type := 207, pos := "engine.go:166", after := #[{ on := 1, ground := Go.Ground.data }, { on := 5, ground := Go.Ground.data }, { on := 9, ground := Go.Ground.data }, { on := 14, ground := Go.Ground.data }], guard := none }) rfl (fun K hK => ?_) AllReadyH.nil
        go_simp
        (have hP15_0_5_9_1 := parts4 (c0 := 2) (c1 := 1) (c2 := 4) (c3 := 1) Hse14_0_5_9_1 Hm14_0_5_9_1 Hl14_0_5_9_1 Hc14_0_5_9_1 w14_0_5_9_1.heap.size rfl; obtain ⟨w15_0_5_9_1, hw15_0_5_9_1⟩ : ∃ q, w14_0_5_9_1.alloc (.cells #[.slice (some ⟨w1.heap.size, 0, none⟩) 2 2, .slice (some ⟨w0_0.heap.size, 0, none⟩) 1 1, .slice (some ⟨w5_0_5.heap.size, 0, none⟩) 4 4, .slice (some ⟨w1_0_5_9_1.heap.size, 0, none⟩) 1 1] 31) = q := ⟨_, rfl⟩; rw [hw15_0_5_9_1] at hP15_0_5_9_1; rw [hw15_0_5_9_1]; have hb15_0_5_9_1 : Below w14_0_5_9_1.heap.size w14_0_5_9_1 w15_0_5_9_1 := (by rw [← hw15_0_5_9_1]; exact (Below.refl _ _).alloc (Nat.le_refl _) _); clear hw15_0_5_9_1; have B15_0_5_9_1 := Blk.below B14_0_5_9_1 hb15_0_5_9_1 (Blk.lt B14_0_5_9_1); have O15_0_5_9_1 := Below.trans O14_0_5_9_1 (hb15_0_5_9_1.mono O14_0_5_9_1.size); have x15_0_5_9_1_0 : w15_0_5_9_1.cell? ⟨w.heap.size, 0, none⟩ = some (.slice oa n cp) := Blk.cell B15_0_5_9_1 0; have x15_0_5_9_1_1 : w15_0_5_9_1.cell? ⟨w.heap.size, 1, none⟩ = some (.int .u32 (last : Int)) := Blk.cell B15_0_5_9_1 1; have x15_0_5_9_1_2 : w15_0_5_9_1.cell? ⟨w.heap.size, 2, none⟩ = some (.int .i64 (M : Int)) := Blk.cell B15_0_5_9_1 2; clear B14_0_5_9_1 O14_0_5_9_1 x14_0_5_9_1_0 x14_0_5_9_1_1 x14_0_5_9_1_2 Hm14_0_5_9_1 Hl14_0_5_9_1 Hse14_0_5_9_1 Hc14_0_5_9_1 hb15_0_5_9_1; skip)
        (try go_wp2_with fail)
        refine hK.out _ _ ?_ (fun hHeld => ?_)
        · (try dsimp only)
          go_keep
        clear hK K
        (try simp only [Act.put, List.setIfInBounds_toArray, List.set_cons_zero, List.set_cons_succ])
        refine wpAnyH_ready (rs := [16]) (by kernel_rfl) (by simp) ?_
        refine AllReadyH.cons (o := { dst := some 29, op := Go.Op.call { callee := Go.Callee.value (Go.Operand.func 94), args := #[Go.Operand.tmp 28], argTypes := #[207] }, type := 31, pos := "engine.go:166", after := #[{ on := 15, ground := Go.Ground.data }, { on := 14, ground := Go.Ground.chain }], guard := none }) rfl (fun K hK => ?_) AllReadyH.nil
        go_simp
        (refine (pjoin_any _ 0 4 4 (p4 2 1 4 1) (p4 seF (numB M 1) (numB last 4) (numB n 1)) _ (by decide) (fun i _ => by unfold p4; split <;> (try split) <;> (try split) <;> decide) hP15_0_5_9_1).mono ?_; rintro e w16_0_5_9_1 ⟨v16_0_5_9_1, rfl, hG16_0_5_9_1, hb16_0_5_9_1⟩; have E16_0_5_9_1 : EB w w.heap.size #[.slice oa n cp, .int .u32 (last : Int), .int .i64 (M : Int)] 79 (encL V 0) (encF n last M V 0) v16_0_5_9_1 w16_0_5_9_1 := EB.mk hG16_0_5_9_1 (Nat.succ_pos 7) (enc_head_eq HN8.out HM8.out) HLT0.out B15_0_5_9_1 hb16_0_5_9_1 O15_0_5_9_1; have B16_0_5_9_1 := Blk.below B15_0_5_9_1 hb16_0_5_9_1 (Blk.lt B15_0_5_9_1); have x16_0_5_9_1_0 : w16_0_5_9_1.cell? ⟨w.heap.size, 0, none⟩ = some (.slice oa n cp) := Blk.cell B16_0_5_9_1 0; have x16_0_5_9_1_1 : w16_0_5_9_1.cell? ⟨w.heap.size, 1, none⟩ = some (.int .u32 (last : Int)) := Blk.cell B16_0_5_9_1 1; have x16_0_5_9_1_2 : w16_0_5_9_1.cell? ⟨w.heap.size, 2, none⟩ = some (.int .i64 (M : Int)) := Blk.cell B16_0_5_9_1 2; clear B15_0_5_9_1 O15_0_5_9_1 x15_0_5_9_1_0 x15_0_5_9_1_1 x15_0_5_9_1_2 hP15_0_5_9_1 hG16_0_5_9_1 hb16_0_5_9_1 B16_0_5_9_1; skip)
        (try go_wp2_with fail)
        refine hK.out _ _ ?_ (fun hHeld => ?_)
        · (try dsimp only)
          go_keep
        clear hK K
        (try simp only [Act.put, List.setIfInBounds_toArray, List.set_cons_zero, List.set_cons_succ])
        refine wpAnyH_take (i := 17) (oi := { dst := some 5, op := Go.Op.assign (Go.Operand.tmp 29), type := 31, pos := "engine.go:166", after := #[{ on := 16, ground := Go.Ground.data }, { on := 16, ground := Go.Ground.chain }, { on := 0, ground := Go.Ground.phase }, { on := 1, ground := Go.Ground.phase }, { on := 2, ground := Go.Ground.phase }, { on := 3, ground := Go.Ground.phase }, { on := 4, ground := Go.Ground.phase }, { on := 5, ground := Go.Ground.phase }, { on := 6, ground := Go.Ground.phase }, { on := 7, ground := Go.Ground.phase }, { on := 8, ground := Go.Ground.phase }, { on := 9, ground := Go.Ground.phase }, { on := 10, ground := Go.Ground.phase }, { on := 11, ground := Go.Ground.phase }, { on := 12, ground := Go.Ground.phase }, { on := 13, ground := Go.Ground.phase }, { on := 14, ground := Go.Ground.phase }, { on := 15, ground := Go.Ground.phase }, { on := 16, ground := Go.Ground.phase }], guard := none }) (v := ?_) rfl (by kernel_rfl) (by kernel_rfl) (by kernel_rfl) (fun _ _ _ h => h) (Or.inl ⟨by rfl, ?_⟩) (by assumption) ?_
        rotate_left
        · intro w hSw
          (try dsimp only at hSw)
          go_simp
          (try with_reducible rfl)
        (try simp only [Act.put, List.setIfInBounds_toArray, List.set_cons_zero, List.set_cons_succ])
        refine wpAnyH_done (by kernel_rfl) ?_ _
        clear x16_0_5_9_1_0 x16_0_5_9_1_1 x16_0_5_9_1_2
        go_wp2_with fail
        go_meet
        exact E16_0_5_9_1
      refine AllReadyH.cons (o := { dst := some 27, op := Go.Op.call { callee := Go.Callee.value (Go.Operand.func 95), args := #[Go.Operand.tmp 26, Go.Operand.const (Go.Value.int Go.IntKind.i64 1)], argTypes := #[22, 3] }, type := 31, pos := "engine.go:166", after := #[{ on := 13, ground := Go.Ground.data }, { on := 9, ground := Go.Ground.chain }], guard := none }) rfl (fun K hK => ?_) AllReadyH.nil
      go_simp
      (refine (pnum_any n 1 _ HN.out (by decide) (by decide)).mono ?_; rintro e w14_0_5_9_14 ⟨rfl, hR14_0_5_9_14, hb14_0_5_9_14⟩; have B14_0_5_9_14 := Blk.below B9_0_5_9 hb14_0_5_9_14 (Blk.lt B9_0_5_9); have O14_0_5_9_14 := Below.trans O9_0_5_9 (hb14_0_5_9_14.mono O9_0_5_9.size); have Hm14_0_5_9_14 := Bytes.later Hm9_0_5_9 hb14_0_5_9_14; have Hl14_0_5_9_14 := Bytes.later Hl9_0_5_9 hb14_0_5_9_14; have Hc14_0_5_9_14 : Bytes w14_0_5_9_14 (some ⟨w9_0_5_9.heap.size, 0, none⟩) 1 (numB n 1) := Row.bytes hR14_0_5_9_14 (fun i _ => numB_lt _ _ i); have raw14_0_5_9_14 := Blk.below raw9_0_5_9 hb14_0_5_9_14 (Blk.lt raw9_0_5_9); have cv14_0_5_9_14 := conv_self 2 2 raw14_0_5_9_14; have x14_0_5_9_14_0 : w14_0_5_9_14.cell? ⟨w.heap.size, 0, none⟩ = some (.slice oa n cp) := Blk.cell B14_0_5_9_14 0; have x14_0_5_9_14_1 : w14_0_5_9_14.cell? ⟨w.heap.size, 1, none⟩ = some (.int .u32 (last : Int)) := Blk.cell B14_0_5_9_14 1; have x14_0_5_9_14_2 : w14_0_5_9_14.cell? ⟨w.heap.size, 2, none⟩ = some (.int .i64 (M : Int)) := Blk.cell B14_0_5_9_14 2; clear B9_0_5_9 O9_0_5_9 x9_0_5_9_0 x9_0_5_9_1 x9_0_5_9_2 Hm9_0_5_9 Hl9_0_5_9 raw9_0_5_9 cv9_0_5_9 hR14_0_5_9_14 hb14_0_5_9_14; skip)
      (try go_wp2_with fail)
      refine hK.out _ _ ?_ (fun hHeld => ?_)
      · (try dsimp only)
        go_keep
      clear hK K
      (try simp only [Act.put, List.setIfInBounds_toArray, List.set_cons_zero, List.set_cons_succ])
      refine wpAnyH_ready (rs := [1]) (by kernel_rfl) (by simp) ?_
      refine AllReadyH.cons (o := { dst := some 14, op := Go.Op.convert 31 31 (Go.Operand.tmp 13), type := 31, pos := "engine.go:166", after := #[{ on := 0, ground := Go.Ground.data }], guard := none }) rfl (fun K hK => ?_) AllReadyH.nil
      go_simp
      (obtain ⟨w1_0_5_9_14, hw1_0_5_9_14⟩ : ∃ q, w14_0_5_9_14.freeze ⟨w1.heap.size, 2, none⟩ 1 = q := ⟨_, rfl⟩; have hO1_0_5_9_14 : Own (w1.heap.size) w14_0_5_9_14 w1_0_5_9_14 := (by rw [← hw1_0_5_9_14]; exact own_freeze); have Hse1_0_5_9_14 : Bytes w1_0_5_9_14 (some ⟨w1.heap.size, 0, none⟩) 2 seF := (by rw [← hw1_0_5_9_14]; exact Bytes.freeze (se_bytes raw14_0_5_9_14)); have Hm1_0_5_9_14 : Bytes w1_0_5_9_14 _ _ _ := (by rw [← hw1_0_5_9_14]; exact Bytes.freeze Hm14_0_5_9_14); have Hl1_0_5_9_14 : Bytes w1_0_5_9_14 _ _ _ := (by rw [← hw1_0_5_9_14]; exact Bytes.freeze Hl14_0_5_9_14); have Hc1_0_5_9_14 : Bytes w1_0_5_9_14 _ _ _ := (by rw [← hw1_0_5_9_14]; exact Bytes.freeze Hc14_0_5_9_14); have e1_0_5_9_14 : (Array.mk [Value.int .u8 115, Value.int .u8 101]).size = 2 := rfl; have B1_0_5_9_14 := Own.blk hO1_0_5_9_14 B14_0_5_9_14 (by have := gl0_0.out; omega); have O1_0_5_9_14 := Below.trans O14_0_5_9_14 (Own.below hO1_0_5_9_14 (by have := gl0_0.out; omega) O14_0_5_9_14.size); have x1_0_5_9_14_0 : w1_0_5_9_14.cell? ⟨w.heap.size, 0, none⟩ = some (.slice oa n cp) := Blk.cell B1_0_5_9_14 0; have x1_0_5_9_14_1 : w1_0_5_9_14.cell? ⟨w.heap.size, 1, none⟩ = some (.int .u32 (last : Int)) := Blk.cell B1_0_5_9_14 1; have x1_0_5_9_14_2 : w1_0_5_9_14.cell? ⟨w.heap.size, 2, none⟩ = some (.int .i64 (M : Int)) := Blk.cell B1_0_5_9_14 2; rw [hw1_0_5_9_14]; clear B14_0_5_9_14 O14_0_5_9_14 x14_0_5_9_14_0 x14_0_5_9_14_1 x14_0_5_9_14_2 Hm14_0_5_9_14 Hl14_0_5_9_14 Hc14_0_5_9_14 raw14_0_5_9_14 cv14_0_5_9_14 hO1_0_5_9_14 e1_0_5_9_14 hw1_0_5_9_14; skip)
      (try go_wp2_with fail)
      refine hK.out _ _ ?_ (fun hHeld => ?_)
      · (try dsimp only)
        go_keep
      clear hK K
      (try simp only [Act.put, List.setIfInBounds_toArray, List.set_cons_zero, List.set_cons_succ])
      refine wpAnyH_ready (rs := [15]) (by kernel_rfl) (by simp) ?_
      refine AllReadyH.cons (o := { dst := some 28, op := Go.Op.buildSlice 207 4 #[(0, Go.Operand.tmp 14), (1, Go.Operand.tmp 18), (2, Go.Operand.tmp 22), (3, Go.Operand.tmp 27)], type := 207, pos := "engine.go:166", after := #[{ on := 1, ground := Go.Ground.data }, { on := 5, ground := Go.Ground.data }, { on := 9, ground := Go.Ground.data }, { on := 14, ground := Go.Ground.data }], guard := none }) rfl (fun K hK => ?_) AllReadyH.nil
      go_simp
      (have hP15_0_5_9_14 := parts4 (c0 := 2) (c1 := 1) (c2 := 4) (c3 := 1) Hse1_0_5_9_14 Hm1_0_5_9_14 Hl1_0_5_9_14 Hc1_0_5_9_14 w1_0_5_9_14.heap.size rfl; obtain ⟨w15_0_5_9_14, hw15_0_5_9_14⟩ : ∃ q, w1_0_5_9_14.alloc (.cells #[.slice (some ⟨w1.heap.size, 0, none⟩) 2 2, .slice (some ⟨w0_0.heap.size, 0, none⟩) 1 1, .slice (some ⟨w5_0_5.heap.size, 0, none⟩) 4 4, .slice (some ⟨w9_0_5_9.heap.size, 0, none⟩) 1 1] 31) = q := ⟨_, rfl⟩; rw [hw15_0_5_9_14] at hP15_0_5_9_14; rw [hw15_0_5_9_14]; have hb15_0_5_9_14 : Below w1_0_5_9_14.heap.size w1_0_5_9_14 w15_0_5_9_14 := (by rw [← hw15_0_5_9_14]; exact (Below.refl _ _).alloc (Nat.le_refl _) _); clear hw15_0_5_9_14; have B15_0_5_9_14 := Blk.below B1_0_5_9_14 hb15_0_5_9_14 (Blk.lt B1_0_5_9_14); have O15_0_5_9_14 := Below.trans O1_0_5_9_14 (hb15_0_5_9_14.mono O1_0_5_9_14.size); have x15_0_5_9_14_0 : w15_0_5_9_14.cell? ⟨w.heap.size, 0, none⟩ = some (.slice oa n cp) := Blk.cell B15_0_5_9_14 0; have x15_0_5_9_14_1 : w15_0_5_9_14.cell? ⟨w.heap.size, 1, none⟩ = some (.int .u32 (last : Int)) := Blk.cell B15_0_5_9_14 1; have x15_0_5_9_14_2 : w15_0_5_9_14.cell? ⟨w.heap.size, 2, none⟩ = some (.int .i64 (M : Int)) := Blk.cell B15_0_5_9_14 2; clear B1_0_5_9_14 O1_0_5_9_14 x1_0_5_9_14_0 x1_0_5_9_14_1 x1_0_5_9_14_2 Hm1_0_5_9_14 Hl1_0_5_9_14 Hc1_0_5_9_14 Hse1_0_5_9_14 hb15_0_5_9_14; skip)
      (try go_wp2_with fail)
      refine hK.out _ _ ?_ (fun hHeld => ?_)
      · (try dsimp only)
        go_keep
      clear hK K
      (try simp only [Act.put, List.setIfInBounds_toArray, List.set_cons_zero, List.set_cons_succ])
      refine wpAnyH_ready (rs := [16]) (by kernel_rfl) (by simp) ?_
      refine AllReadyH.cons (o := { dst := some 29, op := Go.Op.call { callee := Go.Callee.value (Go.Operand.func 94), args := #[Go.Operand.tmp 28], argTypes := #[207] }, type := 31, pos := "engine.go:166", after := #[{ on := 15, ground := Go.Ground.data }, { on := 14, ground := Go.Ground.chain }], guard := none }) rfl (fun K hK => ?_) AllReadyH.nil
      go_simp
      (refine (pjoin_any _ 0 4 4 (p4 2 1 4 1) (p4 seF (numB M 1) (numB last 4) (numB n 1)) _ (by decide) (fun i _ => by unfold p4; split <;> (try split) <;> (try split) <;> decide) hP15_0_5_9_14).mono ?_; rintro e w16_0_5_9_14 ⟨v16_0_5_9_14, rfl, hG16_0_5_9_14, hb16_0_5_9_14⟩; have E16_0_5_9_14 : EB w w.heap.size #[.slice oa n cp, .int .u32 (last : Int), .int .i64 (M : Int)] 79 (encL V 0) (encF n last M V 0) v16_0_5_9_14 w16_0_5_9_14 := EB.mk hG16_0_5_9_14 (Nat.succ_pos 7) (enc_head_eq HN8.out HM8.out) HLT0.out B15_0_5_9_14 hb16_0_5_9_14 O15_0_5_9_14; have B16_0_5_9_14 := Blk.below B15_0_5_9_14 hb16_0_5_9_14 (Blk.lt B15_0_5_9_14); have x16_0_5_9_14_0 : w16_0_5_9_14.cell? ⟨w.heap.size, 0, none⟩ = some (.slice oa n cp) := Blk.cell B16_0_5_9_14 0; have x16_0_5_9_14_1 : w16_0_5_9_14.cell? ⟨w.heap.size, 1, none⟩ = some (.int .u32 (last : Int)) := Blk.cell B16_0_5_9_14 1; have x16_0_5_9_14_2 : w16_0_5_9_14.cell? ⟨w.heap.size, 2, none⟩ = some (.int .i64 (M : Int)) := Blk.cell B16_0_5_9_14 2; clear B15_0_5_9_14 O15_0_5_9_14 x15_0_5_9_14_0 x15_0_5_9_14_1 x15_0_5_9_14_2 hP15_0_5_9_14 hG16_0_5_9_14 hb16_0_5_9_14 B16_0_5_9_14; skip)
      (try go_wp2_with fail)
      refine hK.out _ _ ?_ (fun hHeld => ?_)
      · (try dsimp only)
        go_keep
      clear hK K
      (try simp only [Act.put, List.setIfInBounds_toArray, List.set_cons_zero, List.set_cons_succ])
      refine wpAnyH_take (i := 17) (oi := { dst := some 5, op := Go.Op.assign (Go.Operand.tmp 29), type := 31, pos := "engine.go:166", after := #[{ on := 16, ground := Go.Ground.data }, { on := 16, ground := Go.Ground.chain }, { on := 0, ground := Go.Ground.phase }, { on := 1, ground := Go.Ground.phase }, { on := 2, ground := Go.Ground.phase }, { on := 3, ground := Go.Ground.phase }, { on := 4, ground := Go.Ground.phase }, { on := 5, ground := Go.Ground.phase }, { on := 6, ground := Go.Ground.phase }, { on := 7, ground := Go.Ground.phase }, { on := 8, ground := Go.Ground.phase }, { on := 9, ground := Go.Ground.phase }, { on := 10, ground := Go.Ground.phase }, { on := 11, ground := Go.Ground.phase }, { on := 12, ground := Go.Ground.phase }, { on := 13, ground := Go.Ground.phase }, { on := 14, ground := Go.Ground.phase }, { on := 15, ground := Go.Ground.phase }, { on := 16, ground := Go.Ground.phase }], guard := none }) (v := ?_) rfl (by kernel_rfl) (by kernel_rfl) (by kernel_rfl) (fun _ _ _ h => h) (Or.inl ⟨by rfl, ?_⟩) (by assumption) ?_
      rotate_left
      · intro w hSw
        (try dsimp only at hSw)
        go_simp
        (try with_reducible rfl)
      (try simp only [Act.put, List.setIfInBounds_toArray, List.set_cons_zero, List.set_cons_succ])
      refine wpAnyH_done (by kernel_rfl) ?_ _
      clear x16_0_5_9_14_0 x16_0_5_9_14_1 x16_0_5_9_14_2
      go_wp2_with fail
      go_meet
      exact E16_0_5_9_14
    refine AllReadyH.cons (o := { dst := some 18, op := Go.Op.call { callee := Go.Callee.value (Go.Operand.func 95), args := #[Go.Operand.tmp 17, Go.Operand.const (Go.Value.int Go.IntKind.i64 1)], argTypes := #[22, 3] }, type := 31, pos := "engine.go:166", after := #[{ on := 4, ground := Go.Ground.data }], guard := none }) rfl (fun K hK => ?_) AllReadyH.nil
    go_simp
    (refine (pnum_any M 1 _ HM.out (by decide) (by decide)).mono ?_; rintro e w5_5 ⟨rfl, hR5_5, hb5_5⟩; have B5_5 := Blk.below Bd hb5_5 (Blk.lt Bd); have O5_5 := Below.trans Od (hb5_5.mono Od.size); have Hm5_5 : Bytes w5_5 (some ⟨w1.heap.size, 0, none⟩) 1 (numB M 1) := Row.bytes hR5_5 (fun i _ => numB_lt _ _ i); have x5_5_0 : w5_5.cell? ⟨w.heap.size, 0, none⟩ = some (.slice oa n cp) := Blk.cell B5_5 0; have x5_5_1 : w5_5.cell? ⟨w.heap.size, 1, none⟩ = some (.int .u32 (last : Int)) := Blk.cell B5_5 1; have x5_5_2 : w5_5.cell? ⟨w.heap.size, 2, none⟩ = some (.int .i64 (M : Int)) := Blk.cell B5_5 2; clear Bd Od x0_0 x0_1 x0_2 B0 O0 hR5_5 hb5_5; skip)
    (try go_wp2_with fail)
    refine hK.out _ _ ?_ (fun hHeld => ?_)
    · (try dsimp only)
      go_keep
    clear hK K
    (try simp only [Act.put, List.setIfInBounds_toArray, List.set_cons_zero, List.set_cons_succ])
    refine wpAnyH_ready (rs := [0, 9]) (by kernel_rfl) (by simp) ?_
    refine AllReadyH.cons (o := { dst := some 13, op := Go.Op.buildSlice 31 2 #[(0, Go.Operand.const (Go.Value.int Go.IntKind.u8 115)), (1, Go.Operand.const (Go.Value.int Go.IntKind.u8 101))], type := 31, pos := "engine.go:166", after := #[], guard := none }) rfl (fun K hK => ?_) ?_
    · skip
      go_simp
      (obtain ⟨w0_5_0, hw0_5_0⟩ : ∃ q, w5_5.alloc (.cells #[.int .u8 115, .int .u8 101] 5) = q := ⟨_, rfl⟩; rw [hw0_5_0]; have hb0_5_0 : Below w5_5.heap.size w5_5 w0_5_0 := (by rw [← hw0_5_0]; exact (Below.refl _ _).alloc (Nat.le_refl _) _); have gl0_5_0 := Lib.hid (show w.heap.size < w5_5.heap.size from Blk.lt B5_5); have raw0_5_0 : Blk w0_5_0 w5_5.heap.size #[.int .u8 115, .int .u8 101] 5 := (by rw [← hw0_5_0]; exact Blk.new _ _ _); clear hw0_5_0; have B0_5_0 := Blk.below B5_5 hb0_5_0 (Blk.lt B5_5); have O0_5_0 := Below.trans O5_5 (hb0_5_0.mono O5_5.size); have Hm0_5_0 := Bytes.later Hm5_5 hb0_5_0; have x0_5_0_0 : w0_5_0.cell? ⟨w.heap.size, 0, none⟩ = some (.slice oa n cp) := Blk.cell B0_5_0 0; have x0_5_0_1 : w0_5_0.cell? ⟨w.heap.size, 1, none⟩ = some (.int .u32 (last : Int)) := Blk.cell B0_5_0 1; have x0_5_0_2 : w0_5_0.cell? ⟨w.heap.size, 2, none⟩ = some (.int .i64 (M : Int)) := Blk.cell B0_5_0 2; clear B5_5 O5_5 x5_5_0 x5_5_1 x5_5_2 Hm5_5 hb0_5_0; have cv0_5_0 := conv_self 2 2 raw0_5_0; skip)
      (try go_wp2_with fail)
      refine hK.out _ _ ?_ (fun hHeld => ?_)
      · (try dsimp only)
        go_keep
      clear hK K
      (try simp only [Act.put, List.setIfInBounds_toArray, List.set_cons_zero, List.set_cons_succ])
      refine wpAnyH_ready (rs := [1, 9]) (by kernel_rfl) (by simp) ?_
      refine AllReadyH.cons (o := { dst := some 14, op := Go.Op.convert 31 31 (Go.Operand.tmp 13), type := 31, pos := "engine.go:166", after := #[{ on := 0, ground := Go.Ground.data }], guard := none }) rfl (fun K hK => ?_) ?_
      · skip
        go_simp
        (obtain ⟨w1_5_0_1, hw1_5_0_1⟩ : ∃ q, w0_5_0.freeze ⟨w5_5.heap.size, 2, none⟩ 1 = q := ⟨_, rfl⟩; have hO1_5_0_1 : Own (w5_5.heap.size) w0_5_0 w1_5_0_1 := (by rw [← hw1_5_0_1]; exact own_freeze); have Hse1_5_0_1 : Bytes w1_5_0_1 (some ⟨w5_5.heap.size, 0, none⟩) 2 seF := (by rw [← hw1_5_0_1]; exact Bytes.freeze (se_bytes raw0_5_0)); have Hm1_5_0_1 : Bytes w1_5_0_1 _ _ _ := (by rw [← hw1_5_0_1]; exact Bytes.freeze Hm0_5_0); have e1_5_0_1 : (Array.mk [Value.int .u8 115, Value.int .u8 101]).size = 2 := rfl; have B1_5_0_1 := Own.blk hO1_5_0_1 B0_5_0 (by have := gl0_5_0.out; omega); have O1_5_0_1 := Below.trans O0_5_0 (Own.below hO1_5_0_1 (by have := gl0_5_0.out; omega) O0_5_0.size); have x1_5_0_1_0 : w1_5_0_1.cell? ⟨w.heap.size, 0, none⟩ = some (.slice oa n cp) := Blk.cell B1_5_0_1 0; have x1_5_0_1_1 : w1_5_0_1.cell? ⟨w.heap.size, 1, none⟩ = some (.int .u32 (last : Int)) := Blk.cell B1_5_0_1 1; have x1_5_0_1_2 : w1_5_0_1.cell? ⟨w.heap.size, 2, none⟩ = some (.int .i64 (M : Int)) := Blk.cell B1_5_0_1 2; rw [hw1_5_0_1]; clear B0_5_0 O0_5_0 x0_5_0_0 x0_5_0_1 x0_5_0_2 Hm0_5_0 raw0_5_0 cv0_5_0 hO1_5_0_1 e1_5_0_1 hw1_5_0_1; skip)
        (try go_wp2_with fail)
        refine hK.out _ _ ?_ (fun hHeld => ?_)
        · (try dsimp only)
          go_keep
        clear hK K
        (try simp only [Act.put, List.setIfInBounds_toArray, List.set_cons_zero, List.set_cons_succ])
        refine wpAnyH_ready (rs := [9]) (by kernel_rfl) (by simp) ?_
        refine AllReadyH.cons (o := { dst := some 22, op := Go.Op.call { callee := Go.Callee.value (Go.Operand.func 95), args := #[Go.Operand.tmp 21, Go.Operand.const (Go.Value.int Go.IntKind.i64 4)], argTypes := #[22, 3] }, type := 31, pos := "engine.go:166", after := #[{ on := 8, ground := Go.Ground.data }, { on := 5, ground := Go.Ground.chain }], guard := none }) rfl (fun K hK => ?_) AllReadyH.nil
        go_simp
        (refine (pnum_any last 4 _ HL.out (by decide) (by decide)).mono ?_; rintro e w9_5_0_1 ⟨rfl, hR9_5_0_1, hb9_5_0_1⟩; have B9_5_0_1 := Blk.below B1_5_0_1 hb9_5_0_1 (Blk.lt B1_5_0_1); have O9_5_0_1 := Below.trans O1_5_0_1 (hb9_5_0_1.mono O1_5_0_1.size); have Hm9_5_0_1 := Bytes.later Hm1_5_0_1 hb9_5_0_1; have Hse9_5_0_1 := Bytes.later Hse1_5_0_1 hb9_5_0_1; have Hl9_5_0_1 : Bytes w9_5_0_1 (some ⟨w1_5_0_1.heap.size, 0, none⟩) 4 (numB last 4) := Row.bytes hR9_5_0_1 (fun i _ => numB_lt _ _ i); have x9_5_0_1_0 : w9_5_0_1.cell? ⟨w.heap.size, 0, none⟩ = some (.slice oa n cp) := Blk.cell B9_5_0_1 0; have x9_5_0_1_1 : w9_5_0_1.cell? ⟨w.heap.size, 1, none⟩ = some (.int .u32 (last : Int)) := Blk.cell B9_5_0_1 1; have x9_5_0_1_2 : w9_5_0_1.cell? ⟨w.heap.size, 2, none⟩ = some (.int .i64 (M : Int)) := Blk.cell B9_5_0_1 2; clear B1_5_0_1 O1_5_0_1 x1_5_0_1_0 x1_5_0_1_1 x1_5_0_1_2 Hm1_5_0_1 Hse1_5_0_1 hR9_5_0_1 hb9_5_0_1; skip)
        (try go_wp2_with fail)
        refine hK.out _ _ ?_ (fun hHeld => ?_)
        · (try dsimp only)
          go_keep
        clear hK K
        (try simp only [Act.put, List.setIfInBounds_toArray, List.set_cons_zero, List.set_cons_succ])
        refine wpAnyH_ready (rs := [14]) (by kernel_rfl) (by simp) ?_
        refine AllReadyH.cons (o := { dst := some 27, op := Go.Op.call { callee := Go.Callee.value (Go.Operand.func 95), args := #[Go.Operand.tmp 26, Go.Operand.const (Go.Value.int Go.IntKind.i64 1)], argTypes := #[22, 3] }, type := 31, pos := "engine.go:166", after := #[{ on := 13, ground := Go.Ground.data }, { on := 9, ground := Go.Ground.chain }], guard := none }) rfl (fun K hK => ?_) AllReadyH.nil
        go_simp
        (refine (pnum_any n 1 _ HN.out (by decide) (by decide)).mono ?_; rintro e w14_5_0_1 ⟨rfl, hR14_5_0_1, hb14_5_0_1⟩; have B14_5_0_1 := Blk.below B9_5_0_1 hb14_5_0_1 (Blk.lt B9_5_0_1); have O14_5_0_1 := Below.trans O9_5_0_1 (hb14_5_0_1.mono O9_5_0_1.size); have Hm14_5_0_1 := Bytes.later Hm9_5_0_1 hb14_5_0_1; have Hse14_5_0_1 := Bytes.later Hse9_5_0_1 hb14_5_0_1; have Hl14_5_0_1 := Bytes.later Hl9_5_0_1 hb14_5_0_1; have Hc14_5_0_1 : Bytes w14_5_0_1 (some ⟨w9_5_0_1.heap.size, 0, none⟩) 1 (numB n 1) := Row.bytes hR14_5_0_1 (fun i _ => numB_lt _ _ i); have x14_5_0_1_0 : w14_5_0_1.cell? ⟨w.heap.size, 0, none⟩ = some (.slice oa n cp) := Blk.cell B14_5_0_1 0; have x14_5_0_1_1 : w14_5_0_1.cell? ⟨w.heap.size, 1, none⟩ = some (.int .u32 (last : Int)) := Blk.cell B14_5_0_1 1; have x14_5_0_1_2 : w14_5_0_1.cell? ⟨w.heap.size, 2, none⟩ = some (.int .i64 (M : Int)) := Blk.cell B14_5_0_1 2; clear B9_5_0_1 O9_5_0_1 x9_5_0_1_0 x9_5_0_1_1 x9_5_0_1_2 Hm9_5_0_1 Hse9_5_0_1 Hl9_5_0_1 hR14_5_0_1 hb14_5_0_1; skip)
        (try go_wp2_with fail)
        refine hK.out _ _ ?_ (fun hHeld => ?_)
        · (try dsimp only)
          go_keep
        clear hK K
        (try simp only [Act.put, List.setIfInBounds_toArray, List.set_cons_zero, List.set_cons_succ])
        refine wpAnyH_ready (rs := [15]) (by kernel_rfl) (by simp) ?_
        refine AllReadyH.cons (o := { dst := some 28, op := Go.Op.buildSlice 207 4 #[(0, Go.Operand.tmp 14), (1, Go.Operand.tmp 18), (2, Go.Operand.tmp 22), (3, Go.Operand.tmp 27)], type := 207, pos := "engine.go:166", after := #[{ on := 1, ground := Go.Ground.data }, { on := 5, ground := Go.Ground.data }, { on := 9, ground := Go.Ground.data }, { on := 14, ground := Go.Ground.data }], guard := none }) rfl (fun K hK => ?_) AllReadyH.nil
        go_simp
        (have hP15_5_0_1 := parts4 (c0 := 2) (c1 := 1) (c2 := 4) (c3 := 1) Hse14_5_0_1 Hm14_5_0_1 Hl14_5_0_1 Hc14_5_0_1 w14_5_0_1.heap.size rfl; obtain ⟨w15_5_0_1, hw15_5_0_1⟩ : ∃ q, w14_5_0_1.alloc (.cells #[.slice (some ⟨w5_5.heap.size, 0, none⟩) 2 2, .slice (some ⟨w1.heap.size, 0, none⟩) 1 1, .slice (some ⟨w1_5_0_1.heap.size, 0, none⟩) 4 4, .slice (some ⟨w9_5_0_1.heap.size, 0, none⟩) 1 1] 31) = q := ⟨_, rfl⟩; rw [hw15_5_0_1] at hP15_5_0_1; rw [hw15_5_0_1]; have hb15_5_0_1 : Below w14_5_0_1.heap.size w14_5_0_1 w15_5_0_1 := (by rw [← hw15_5_0_1]; exact (Below.refl _ _).alloc (Nat.le_refl _) _); clear hw15_5_0_1; have B15_5_0_1 := Blk.below B14_5_0_1 hb15_5_0_1 (Blk.lt B14_5_0_1); have O15_5_0_1 := Below.trans O14_5_0_1 (hb15_5_0_1.mono O14_5_0_1.size); have x15_5_0_1_0 : w15_5_0_1.cell? ⟨w.heap.size, 0, none⟩ = some (.slice oa n cp) := Blk.cell B15_5_0_1 0; have x15_5_0_1_1 : w15_5_0_1.cell? ⟨w.heap.size, 1, none⟩ = some (.int .u32 (last : Int)) := Blk.cell B15_5_0_1 1; have x15_5_0_1_2 : w15_5_0_1.cell? ⟨w.heap.size, 2, none⟩ = some (.int .i64 (M : Int)) := Blk.cell B15_5_0_1 2; clear B14_5_0_1 O14_5_0_1 x14_5_0_1_0 x14_5_0_1_1 x14_5_0_1_2 Hm14_5_0_1 Hse14_5_0_1 Hl14_5_0_1 Hc14_5_0_1 hb15_5_0_1; skip)
        (try go_wp2_with fail)
        refine hK.out _ _ ?_ (fun hHeld => ?_)
        · (try dsimp only)
          go_keep
        clear hK K
        (try simp only [Act.put, List.setIfInBounds_toArray, List.set_cons_zero, List.set_cons_succ])
        refine wpAnyH_ready (rs := [16]) (by kernel_rfl) (by simp) ?_
        refine AllReadyH.cons (o := { dst := some 29, op := Go.Op.call { callee := Go.Callee.value (Go.Operand.func 94), args := #[Go.Operand.tmp 28], argTypes := #[207] }, type := 31, pos := "engine.go:166", after := #[{ on := 15, ground := Go.Ground.data }, { on := 14, ground := Go.Ground.chain }], guard := none }) rfl (fun K hK => ?_) AllReadyH.nil
        go_simp
        (refine (pjoin_any _ 0 4 4 (p4 2 1 4 1) (p4 seF (numB M 1) (numB last 4) (numB n 1)) _ (by decide) (fun i _ => by unfold p4; split <;> (try split) <;> (try split) <;> decide) hP15_5_0_1).mono ?_; rintro e w16_5_0_1 ⟨v16_5_0_1, rfl, hG16_5_0_1, hb16_5_0_1⟩; have E16_5_0_1 : EB w w.heap.size #[.slice oa n cp, .int .u32 (last : Int), .int .i64 (M : Int)] 79 (encL V 0) (encF n last M V 0) v16_5_0_1 w16_5_0_1 := EB.mk hG16_5_0_1 (Nat.succ_pos 7) (enc_head_eq HN8.out HM8.out) HLT0.out B15_5_0_1 hb16_5_0_1 O15_5_0_1; have B16_5_0_1 := Blk.below B15_5_0_1 hb16_5_0_1 (Blk.lt B15_5_0_1); have x16_5_0_1_0 : w16_5_0_1.cell? ⟨w.heap.size, 0, none⟩ = some (.slice oa n cp) := Blk.cell B16_5_0_1 0; have x16_5_0_1_1 : w16_5_0_1.cell? ⟨w.heap.size, 1, none⟩ = some (.int .u32 (last : Int)) := Blk.cell B16_5_0_1 1; have x16_5_0_1_2 : w16_5_0_1.cell? ⟨w.heap.size, 2, none⟩ = some (.int .i64 (M : Int)) := Blk.cell B16_5_0_1 2; clear B15_5_0_1 O15_5_0_1 x15_5_0_1_0 x15_5_0_1_1 x15_5_0_1_2 hP15_5_0_1 hG16_5_0_1 hb16_5_0_1 B16_5_0_1; skip)
        (try go_wp2_with fail)
        refine hK.out _ _ ?_ (fun hHeld => ?_)
        · (try dsimp only)
          go_keep
        clear hK K
        (try simp only [Act.put, List.setIfInBounds_toArray, List.set_cons_zero, List.set_cons_succ])
        refine wpAnyH_take (i := 17) (oi := { dst := some 5, op := Go.Op.assign (Go.Operand.tmp 29), type := 31, pos := "engine.go:166", after := #[{ on := 16, ground := Go.Ground.data }, { on := 16, ground := Go.Ground.chain }, { on := 0, ground := Go.Ground.phase }, { on := 1, ground := Go.Ground.phase }, { on := 2, ground := Go.Ground.phase }, { on := 3, ground := Go.Ground.phase }, { on := 4, ground := Go.Ground.phase }, { on := 5, ground := Go.Ground.phase }, { on := 6, ground := Go.Ground.phase }, { on := 7, ground := Go.Ground.phase }, { on := 8, ground := Go.Ground.phase }, { on := 9, ground := Go.Ground.phase }, { on := 10, ground := Go.Ground.phase }, { on := 11, ground := Go.Ground.phase }, { on := 12, ground := Go.Ground.phase }, { on := 13, ground := Go.Ground.phase }, { on := 14, ground := Go.Ground.phase }, { on := 15, ground := Go.Ground.phase }, { on := 16, ground := Go.Ground.phase }], guard := none }) (v := ?_) rfl (by kernel_rfl) (by kernel_rfl) (by kernel_rfl) (fun _ _ _ h => h) (Or.inl ⟨by rfl, ?_⟩) (by assumption) ?_
        rotate_left
        · intro w hSw
          (try dsimp only at hSw)
          go_simp
          (try with_reducible rfl)
        (try simp only [Act.put, List.setIfInBounds_toArray, List.set_cons_zero, List.set_cons_succ])
        refine wpAnyH_done (by kernel_rfl) ?_ _
        clear x16_5_0_1_0 x16_5_0_1_1 x16_5_0_1_2
        go_wp2_with fail
        go_meet
        exact E16_5_0_1
      refine AllReadyH.cons (o := { dst := some 22, op := Go.Op.call { callee := Go.Callee.value (Go.Operand.func 95), args := #[Go.Operand.tmp 21, Go.Operand.const (Go.Value.int Go.IntKind.i64 4)], argTypes := #[22, 3] }, type := 31, pos := "engine.go:166", after := #[{ on := 8, ground := Go.Ground.data }, { on := 5, ground := Go.Ground.chain }], guard := none }) rfl (fun K hK => ?_) AllReadyH.nil
      go_simp
      (refine (pnum_any last 4 _ HL.out (by decide) (by decide)).mono ?_; rintro e w9_5_0_9 ⟨rfl, hR9_5_0_9, hb9_5_0_9⟩; have B9_5_0_9 := Blk.below B0_5_0 hb9_5_0_9 (Blk.lt B0_5_0); have O9_5_0_9 := Below.trans O0_5_0 (hb9_5_0_9.mono O0_5_0.size); have Hm9_5_0_9 := Bytes.later Hm0_5_0 hb9_5_0_9; have Hl9_5_0_9 : Bytes w9_5_0_9 (some ⟨w0_5_0.heap.size, 0, none⟩) 4 (numB last 4) := Row.bytes hR9_5_0_9 (fun i _ => numB_lt _ _ i); have raw9_5_0_9 := Blk.below raw0_5_0 hb9_5_0_9 (Blk.lt raw0_5_0); have cv9_5_0_9 := conv_self 2 2 raw9_5_0_9; have x9_5_0_9_0 : w9_5_0_9.cell? ⟨w.heap.size, 0, none⟩ = some (.slice oa n cp) := Blk.cell B9_5_0_9 0; have x9_5_0_9_1 : w9_5_0_9.cell? ⟨w.heap.size, 1, none⟩ = some (.int .u32 (last : Int)) := Blk.cell B9_5_0_9 1; have x9_5_0_9_2 : w9_5_0_9.cell? ⟨w.heap.size, 2, none⟩ = some (.int .i64 (M : Int)) := Blk.cell B9_5_0_9 2; clear B0_5_0 O0_5_0 x0_5_0_0 x0_5_0_1 x0_5_0_2 Hm0_5_0 raw0_5_0 cv0_5_0 hR9_5_0_9 hb9_5_0_9; skip)
      (try go_wp2_with fail)
      refine hK.out _ _ ?_ (fun hHeld => ?_)
      · (try dsimp only)
        go_keep
      clear hK K
      (try simp only [Act.put, List.setIfInBounds_toArray, List.set_cons_zero, List.set_cons_succ])
      refine wpAnyH_ready (rs := [1, 14]) (by kernel_rfl) (by simp) ?_
      refine AllReadyH.cons (o := { dst := some 14, op := Go.Op.convert 31 31 (Go.Operand.tmp 13), type := 31, pos := "engine.go:166", after := #[{ on := 0, ground := Go.Ground.data }], guard := none }) rfl (fun K hK => ?_) ?_
      · skip
        go_simp
        (obtain ⟨w1_5_0_9_1, hw1_5_0_9_1⟩ : ∃ q, w9_5_0_9.freeze ⟨w5_5.heap.size, 2, none⟩ 1 = q := ⟨_, rfl⟩; have hO1_5_0_9_1 : Own (w5_5.heap.size) w9_5_0_9 w1_5_0_9_1 := (by rw [← hw1_5_0_9_1]; exact own_freeze); have Hse1_5_0_9_1 : Bytes w1_5_0_9_1 (some ⟨w5_5.heap.size, 0, none⟩) 2 seF := (by rw [← hw1_5_0_9_1]; exact Bytes.freeze (se_bytes raw9_5_0_9)); have Hm1_5_0_9_1 : Bytes w1_5_0_9_1 _ _ _ := (by rw [← hw1_5_0_9_1]; exact Bytes.freeze Hm9_5_0_9); have Hl1_5_0_9_1 : Bytes w1_5_0_9_1 _ _ _ := (by rw [← hw1_5_0_9_1]; exact Bytes.freeze Hl9_5_0_9); have e1_5_0_9_1 : (Array.mk [Value.int .u8 115, Value.int .u8 101]).size = 2 := rfl; have B1_5_0_9_1 := Own.blk hO1_5_0_9_1 B9_5_0_9 (by have := gl0_5_0.out; omega); have O1_5_0_9_1 := Below.trans O9_5_0_9 (Own.below hO1_5_0_9_1 (by have := gl0_5_0.out; omega) O9_5_0_9.size); have x1_5_0_9_1_0 : w1_5_0_9_1.cell? ⟨w.heap.size, 0, none⟩ = some (.slice oa n cp) := Blk.cell B1_5_0_9_1 0; have x1_5_0_9_1_1 : w1_5_0_9_1.cell? ⟨w.heap.size, 1, none⟩ = some (.int .u32 (last : Int)) := Blk.cell B1_5_0_9_1 1; have x1_5_0_9_1_2 : w1_5_0_9_1.cell? ⟨w.heap.size, 2, none⟩ = some (.int .i64 (M : Int)) := Blk.cell B1_5_0_9_1 2; rw [hw1_5_0_9_1]; clear B9_5_0_9 O9_5_0_9 x9_5_0_9_0 x9_5_0_9_1 x9_5_0_9_2 Hm9_5_0_9 Hl9_5_0_9 raw9_5_0_9 cv9_5_0_9 hO1_5_0_9_1 e1_5_0_9_1 hw1_5_0_9_1; skip)
        (try go_wp2_with fail)
        refine hK.out _ _ ?_ (fun hHeld => ?_)
        · (try dsimp only)
          go_keep
        clear hK K
        (try simp only [Act.put, List.setIfInBounds_toArray, List.set_cons_zero, List.set_cons_succ])
        refine wpAnyH_ready (rs := [14]) (by kernel_rfl) (by simp) ?_
        refine AllReadyH.cons (o := { dst := some 27, op := Go.Op.call { callee := Go.Callee.value (Go.Operand.func 95), args := #[Go.Operand.tmp 26, Go.Operand.const (Go.Value.int Go.IntKind.i64 1)], argTypes := #[22, 3] }, type := 31, pos := "engine.go:166", after := #[{ on := 13, ground := Go.Ground.data }, { on := 9, ground := Go.Ground.chain }], guard := none }) rfl (fun K hK => ?_) AllReadyH.nil
        go_simp
        (refine (pnum_any n 1 _ HN.out (by decide) (by decide)).mono ?_; rintro e w14_5_0_9_1 ⟨rfl, hR14_5_0_9_1, hb14_5_0_9_1⟩; have B14_5_0_9_1 := Blk.below B1_5_0_9_1 hb14_5_0_9_1 (Blk.lt B1_5_0_9_1); have O14_5_0_9_1 := Below.trans O1_5_0_9_1 (hb14_5_0_9_1.mono O1_5_0_9_1.size); have Hm14_5_0_9_1 := Bytes.later Hm1_5_0_9_1 hb14_5_0_9_1; have Hl14_5_0_9_1 := Bytes.later Hl1_5_0_9_1 hb14_5_0_9_1; have Hse14_5_0_9_1 := Bytes.later Hse1_5_0_9_1 hb14_5_0_9_1; have Hc14_5_0_9_1 : Bytes w14_5_0_9_1 (some ⟨w1_5_0_9_1.heap.size, 0, none⟩) 1 (numB n 1) := Row.bytes hR14_5_0_9_1 (fun i _ => numB_lt _ _ i); have x14_5_0_9_1_0 : w14_5_0_9_1.cell? ⟨w.heap.size, 0, none⟩ = some (.slice oa n cp) := Blk.cell B14_5_0_9_1 0; have x14_5_0_9_1_1 : w14_5_0_9_1.cell? ⟨w.heap.size, 1, none⟩ = some (.int .u32 (last : Int)) := Blk.cell B14_5_0_9_1 1; have x14_5_0_9_1_2 : w14_5_0_9_1.cell? ⟨w.heap.size, 2, none⟩ = some (.int .i64 (M : Int)) := Blk.cell B14_5_0_9_1 2; clear B1_5_0_9_1 O1_5_0_9_1 x1_5_0_9_1_0 x1_5_0_9_1_1 x1_5_0_9_1_2 Hm1_5_0_9_1 Hl1_5_0_9_1 Hse1_5_0_9_1 hR14_5_0_9_1 hb14_5_0_9_1; skip)
        (try go_wp2_with fail)
        refine hK.out _ _ ?_ (fun hHeld => ?_)
        · (try dsimp only)
          go_keep
        clear hK K
        (try simp only [Act.put, List.setIfInBounds_toArray, List.set_cons_zero, List.set_cons_succ])
        refine wpAnyH_ready (rs := [15]) (by kernel_rfl) (by simp) ?_
        refine AllReadyH.cons (o := { dst := some 28, op := Go.Op.buildSlice 207 4 #[(0, Go.Operand.tmp 14), (1, Go.Operand.tmp 18), (2, Go.Operand.tmp 22), (3, Go.Operand.tmp 27)], type := 207, pos := "engine.go:166", after := #[{ on := 1, ground := Go.Ground.data }, { on := 5, ground := Go.Ground.data }, { on := 9, ground := Go.Ground.data }, { on := 14, ground := Go.Ground.data }], guard := none }) rfl (fun K hK => ?_) AllReadyH.nil
        go_simp
        (have hP15_5_0_9_1 := parts4 (c0 := 2) (c1 := 1) (c2 := 4) (c3 := 1) Hse14_5_0_9_1 Hm14_5_0_9_1 Hl14_5_0_9_1 Hc14_5_0_9_1 w14_5_0_9_1.heap.size rfl; obtain ⟨w15_5_0_9_1, hw15_5_0_9_1⟩ : ∃ q, w14_5_0_9_1.alloc (.cells #[.slice (some ⟨w5_5.heap.size, 0, none⟩) 2 2, .slice (some ⟨w1.heap.size, 0, none⟩) 1 1, .slice (some ⟨w0_5_0.heap.size, 0, none⟩) 4 4, .slice (some ⟨w1_5_0_9_1.heap.size, 0, none⟩) 1 1] 31) = q := ⟨_, rfl⟩; rw [hw15_5_0_9_1] at hP15_5_0_9_1; rw [hw15_5_0_9_1]; have hb15_5_0_9_1 : Below w14_5_0_9_1.heap.size w14_5_0_9_1 w15_5_0_9_1 := (by rw [← hw15_5_0_9_1]; exact (Below.refl _ _).alloc (Nat.le_refl _) _); clear hw15_5_0_9_1; have B15_5_0_9_1 := Blk.below B14_5_0_9_1 hb15_5_0_9_1 (Blk.lt B14_5_0_9_1); have O15_5_0_9_1 := Below.trans O14_5_0_9_1 (hb15_5_0_9_1.mono O14_5_0_9_1.size); have x15_5_0_9_1_0 : w15_5_0_9_1.cell? ⟨w.heap.size, 0, none⟩ = some (.slice oa n cp) := Blk.cell B15_5_0_9_1 0; have x15_5_0_9_1_1 : w15_5_0_9_1.cell? ⟨w.heap.size, 1, none⟩ = some (.int .u32 (last : Int)) := Blk.cell B15_5_0_9_1 1; have x15_5_0_9_1_2 : w15_5_0_9_1.cell? ⟨w.heap.size, 2, none⟩ = some (.int .i64 (M : Int)) := Blk.cell B15_5_0_9_1 2; clear B14_5_0_9_1 O14_5_0_9_1 x14_5_0_9_1_0 x14_5_0_9_1_1 x14_5_0_9_1_2 Hm14_5_0_9_1 Hl14_5_0_9_1 Hse14_5_0_9_1 Hc14_5_0_9_1 hb15_5_0_9_1; skip)
        (try go_wp2_with fail)
        refine hK.out _ _ ?_ (fun hHeld => ?_)
        · (try dsimp only)
          go_keep
        clear hK K
        (try simp only [Act.put, List.setIfInBounds_toArray, List.set_cons_zero, List.set_cons_succ])
        refine wpAnyH_ready (rs := [16]) (by kernel_rfl) (by simp) ?_
        refine AllReadyH.cons (o := { dst := some 29, op := Go.Op.call { callee := Go.Callee.value (Go.Operand.func 94), args := #[Go.Operand.tmp 28], argTypes := #[207] }, type := 31, pos := "engine.go:166", after := #[{ on := 15, ground := Go.Ground.data }, { on := 14, ground := Go.Ground.chain }], guard := none }) rfl (fun K hK => ?_) AllReadyH.nil
        go_simp
        (refine (pjoin_any _ 0 4 4 (p4 2 1 4 1) (p4 seF (numB M 1) (numB last 4) (numB n 1)) _ (by decide) (fun i _ => by unfold p4; split <;> (try split) <;> (try split) <;> decide) hP15_5_0_9_1).mono ?_; rintro e w16_5_0_9_1 ⟨v16_5_0_9_1, rfl, hG16_5_0_9_1, hb16_5_0_9_1⟩; have E16_5_0_9_1 : EB w w.heap.size #[.slice oa n cp, .int .u32 (last : Int), .int .i64 (M : Int)] 79 (encL V 0) (encF n last M V 0) v16_5_0_9_1 w16_5_0_9_1 := EB.mk hG16_5_0_9_1 (Nat.succ_pos 7) (enc_head_eq HN8.out HM8.out) HLT0.out B15_5_0_9_1 hb16_5_0_9_1 O15_5_0_9_1; have B16_5_0_9_1 := Blk.below B15_5_0_9_1 hb16_5_0_9_1 (Blk.lt B15_5_0_9_1); have x16_5_0_9_1_0 : w16_5_0_9_1.cell? ⟨w.heap.size, 0, none⟩ = some (.slice oa n cp) := Blk.cell B16_5_0_9_1 0; have x16_5_0_9_1_1 : w16_5_0_9_1.cell? ⟨w.heap.size, 1, none⟩ = some (.int .u32 (last : Int)) := Blk.cell B16_5_0_9_1 1; have x16_5_0_9_1_2 : w16_5_0_9_1.cell? ⟨w.heap.size, 2, none⟩ = some (.int .i64 (M : Int)) := Blk.cell B16_5_0_9_1 2; clear B15_5_0_9_1 O15_5_0_9_1 x15_5_0_9_1_0 x15_5_0_9_1_1 x15_5_0_9_1_2 hP15_5_0_9_1 hG16_5_0_9_1 hb16_5_0_9_1 B16_5_0_9_1; skip)
        (try go_wp2_with fail)
        refine hK.out _ _ ?_ (fun hHeld => ?_)
        · (try dsimp only)
          go_keep
        clear hK K
        (try simp only [Act.put, List.setIfInBounds_toArray, List.set_cons_zero, List.set_cons_succ])
        refine wpAnyH_take (i := 17) (oi := { dst := some 5, op := Go.Op.assign (Go.Operand.tmp 29), type := 31, pos := "engine.go:166", after := #[{ on := 16, ground := Go.Ground.data }, { on := 16, ground := Go.Ground.chain }, { on := 0, ground := Go.Ground.phase }, { on := 1, ground := Go.Ground.phase }, { on := 2, ground := Go.Ground.phase }, { on := 3, ground := Go.Ground.phase }, { on := 4, ground := Go.Ground.phase }, { on := 5, ground := Go.Ground.phase }, { on := 6, ground := Go.Ground.phase }, { on := 7, ground := Go.Ground.phase }, { on := 8, ground := Go.Ground.phase }, { on := 9, ground := Go.Ground.phase }, { on := 10, ground := Go.Ground.phase }, { on := 11, ground := Go.Ground.phase }, { on := 12, ground := Go.Ground.phase }, { on := 13, ground := Go.Ground.phase }, { on := 14, ground := Go.Ground.phase }, { on := 15, ground := Go.Ground.phase }, { on := 16, ground := Go.Ground.phase }], guard := none }) (v := ?_) rfl (by kernel_rfl) (by kernel_rfl) (by kernel_rfl) (fun _ _ _ h => h) (Or.inl ⟨by rfl, ?_⟩) (by assumption) ?_
        rotate_left
        · intro w hSw
          (try dsimp only at hSw)
          go_simp
          (try with_reducible rfl)
        (try simp only [Act.put, List.setIfInBounds_toArray, List.set_cons_zero, List.set_cons_succ])
        refine wpAnyH_done (by kernel_rfl) ?_ _
        clear x16_5_0_9_1_0 x16_5_0_9_1_1 x16_5_0_9_1_2
        go_wp2_with fail
        go_meet
        exact E16_5_0_9_1
      refine AllReadyH.cons (o := { dst := some 27, op := Go.Op.call { callee := Go.Callee.value (Go.Operand.func 95), args := #[Go.Operand.tmp 26, Go.Operand.const (Go.Value.int Go.IntKind.i64 1)], argTypes := #[22, 3] }, type := 31, pos := "engine.go:166", after := #[{ on := 13, ground := Go.Ground.data }, { on := 9, ground := Go.Ground.chain }], guard := none }) rfl (fun K hK => ?_) AllReadyH.nil
      go_simp
      (refine (pnum_any n 1 _ HN.out (by decide) (by decide)).mono ?_; rintro e w14_5_0_9_14 ⟨rfl, hR14_5_0_9_14, hb14_5_0_9_14⟩; have B14_5_0_9_14 := Blk.below B9_5_0_9 hb14_5_0_9_14 (Blk.lt B9_5_0_9); have O14_5_0_9_14 := Below.trans O9_5_0_9 (hb14_5_0_9_14.mono O9_5_0_9.size); have Hm14_5_0_9_14 := Bytes.later Hm9_5_0_9 hb14_5_0_9_14; have Hl14_5_0_9_14 := Bytes.later Hl9_5_0_9 hb14_5_0_9_14; have Hc14_5_0_9_14 : Bytes w14_5_0_9_14 (some ⟨w9_5_0_9.heap.size, 0, none⟩) 1 (numB n 1) := Row.bytes hR14_5_0_9_14 (fun i _ => numB_lt _ _ i); have raw14_5_0_9_14 := Blk.below raw9_5_0_9 hb14_5_0_9_14 (Blk.lt raw9_5_0_9); have cv14_5_0_9_14 := conv_self 2 2 raw14_5_0_9_14; have x14_5_0_9_14_0 : w14_5_0_9_14.cell? ⟨w.heap.size, 0, none⟩ = some (.slice oa n cp) := Blk.cell B14_5_0_9_14 0; have x14_5_0_9_14_1 : w14_5_0_9_14.cell? ⟨w.heap.size, 1, none⟩ = some (.int .u32 (last : Int)) := Blk.cell B14_5_0_9_14 1; have x14_5_0_9_14_2 : w14_5_0_9_14.cell? ⟨w.heap.size, 2, none⟩ = some (.int .i64 (M : Int)) := Blk.cell B14_5_0_9_14 2; clear B9_5_0_9 O9_5_0_9 x9_5_0_9_0 x9_5_0_9_1 x9_5_0_9_2 Hm9_5_0_9 Hl9_5_0_9 raw9_5_0_9 cv9_5_0_9 hR14_5_0_9_14 hb14_5_0_9_14; skip)
      (try go_wp2_with fail)
      refine hK.out _ _ ?_ (fun hHeld => ?_)
      · (try dsimp only)
        go_keep
      clear hK K
      (try simp only [Act.put, List.setIfInBounds_toArray, List.set_cons_zero, List.set_cons_succ])
      refine wpAnyH_ready (rs := [1]) (by kernel_rfl) (by simp) ?_
      refine AllReadyH.cons (o := { dst := some 14, op := Go.Op.convert 31 31 (Go.Operand.tmp 13), type := 31, pos := "engine.go:166", after := #[{ on := 0, ground := Go.Ground.data }], guard := none }) rfl (fun K hK => ?_) AllReadyH.nil
      go_simp
      (obtain ⟨w1_5_0_9_14, hw1_5_0_9_14⟩ : ∃ q, w14_5_0_9_14.freeze ⟨w5_5.heap.size, 2, none⟩ 1 = q := ⟨_, rfl⟩; have hO1_5_0_9_14 : Own (w5_5.heap.size) w14_5_0_9_14 w1_5_0_9_14 := (by rw [← hw1_5_0_9_14]; exact own_freeze); have Hse1_5_0_9_14 : Bytes w1_5_0_9_14 (some ⟨w5_5.heap.size, 0, none⟩) 2 seF := (by rw [← hw1_5_0_9_14]; exact Bytes.freeze (se_bytes raw14_5_0_9_14)); have Hm1_5_0_9_14 : Bytes w1_5_0_9_14 _ _ _ := (by rw [← hw1_5_0_9_14]; exact Bytes.freeze Hm14_5_0_9_14); have Hl1_5_0_9_14 : Bytes w1_5_0_9_14 _ _ _ := (by rw [← hw1_5_0_9_14]; exact Bytes.freeze Hl14_5_0_9_14); have Hc1_5_0_9_14 : Bytes w1_5_0_9_14 _ _ _ := (by rw [← hw1_5_0_9_14]; exact Bytes.freeze Hc14_5_0_9_14); have e1_5_0_9_14 : (Array.mk [Value.int .u8 115, Value.int .u8 101]).size = 2 := rfl; have B1_5_0_9_14 := Own.blk hO1_5_0_9_14 B14_5_0_9_14 (by have := gl0_5_0.out; omega); have O1_5_0_9_14 := Below.trans O14_5_0_9_14 (Own.below hO1_5_0_9_14 (by have := gl0_5_0.out; omega) O14_5_0_9_14.size); have x1_5_0_9_14_0 : w1_5_0_9_14.cell? ⟨w.heap.size, 0, none⟩ = some (.slice oa n cp) := Blk.cell B1_5_0_9_14 0; have x1_5_0_9_14_1 : w1_5_0_9_14.cell? ⟨w.heap.size, 1, none⟩ = some (.int .u32 (last : Int)) := Blk.cell B1_5_0_9_14 1; have x1_5_0_9_14_2 : w1_5_0_9_14.cell? ⟨w.heap.size, 2, none⟩ = some (.int .i64 (M : Int)) := Blk.cell B1_5_0_9_14 2; rw [hw1_5_0_9_14]; clear B14_5_0_9_14 O14_5_0_9_14 x14_5_0_9_14_0 x14_5_0_9_14_1 x14_5_0_9_14_2 Hm14_5_0_9_14 Hl14_5_0_9_14 Hc14_5_0_9_14 raw14_5_0_9_14 cv14_5_0_9_14 hO1_5_0_9_14 e1_5_0_9_14 hw1_5_0_9_14; skip)
      (try go_wp2_with fail)
      refine hK.out _ _ ?_ (fun hHeld => ?_)
      · (try dsimp only)
        go_keep
      clear hK K
      (try simp only [Act.put, List.setIfInBounds_toArray, List.set_cons_zero, List.set_cons_succ])
      refine wpAnyH_ready (rs := [15]) (by kernel_rfl) (by simp) ?_
      refine AllReadyH.cons (o := { dst := some 28, op := Go.Op.buildSlice 207 4 #[(0, Go.Operand.tmp 14), (1, Go.Operand.tmp 18), (2, Go.Operand.tmp 22), (3, Go.Operand.tmp 27)], type := 207, pos := "engine.go:166", after := #[{ on := 1, ground := Go.Ground.data }, { on := 5, ground := Go.Ground.data }, { on := 9, ground := Go.Ground.data }, { on := 14, ground := Go.Ground.data }], guard := none }) rfl (fun K hK => ?_) AllReadyH.nil
      go_simp
      (have hP15_5_0_9_14 := parts4 (c0 := 2) (c1 := 1) (c2 := 4) (c3 := 1) Hse1_5_0_9_14 Hm1_5_0_9_14 Hl1_5_0_9_14 Hc1_5_0_9_14 w1_5_0_9_14.heap.size rfl; obtain ⟨w15_5_0_9_14, hw15_5_0_9_14⟩ : ∃ q, w1_5_0_9_14.alloc (.cells #[.slice (some ⟨w5_5.heap.size, 0, none⟩) 2 2, .slice (some ⟨w1.heap.size, 0, none⟩) 1 1, .slice (some ⟨w0_5_0.heap.size, 0, none⟩) 4 4, .slice (some ⟨w9_5_0_9.heap.size, 0, none⟩) 1 1] 31) = q := ⟨_, rfl⟩; rw [hw15_5_0_9_14] at hP15_5_0_9_14; rw [hw15_5_0_9_14]; have hb15_5_0_9_14 : Below w1_5_0_9_14.heap.size w1_5_0_9_14 w15_5_0_9_14 := (by rw [← hw15_5_0_9_14]; exact (Below.refl _ _).alloc (Nat.le_refl _) _); clear hw15_5_0_9_14; have B15_5_0_9_14 := Blk.below B1_5_0_9_14 hb15_5_0_9_14 (Blk.lt B1_5_0_9_14); have O15_5_0_9_14 := Below.trans O1_5_0_9_14 (hb15_5_0_9_14.mono O1_5_0_9_14.size); have x15_5_0_9_14_0 : w15_5_0_9_14.cell? ⟨w.heap.size, 0, none⟩ = some (.slice oa n cp) := Blk.cell B15_5_0_9_14 0; have x15_5_0_9_14_1 : w15_5_0_9_14.cell? ⟨w.heap.size, 1, none⟩ = some (.int .u32 (last : Int)) := Blk.cell B15_5_0_9_14 1; have x15_5_0_9_14_2 : w15_5_0_9_14.cell? ⟨w.heap.size, 2, none⟩ = some (.int .i64 (M : Int)) := Blk.cell B15_5_0_9_14 2; clear B1_5_0_9_14 O1_5_0_9_14 x1_5_0_9_14_0 x1_5_0_9_14_1 x1_5_0_9_14_2 Hm1_5_0_9_14 Hl1_5_0_9_14 Hc1_5_0_9_14 Hse1_5_0_9_14 hb15_5_0_9_14; skip)
      (try go_wp2_with fail)
      refine hK.out _ _ ?_ (fun hHeld => ?_)
      · (try dsimp only)
        go_keep
      clear hK K
      (try simp only [Act.put, List.setIfInBounds_toArray, List.set_cons_zero, List.set_cons_succ])
      refine wpAnyH_ready (rs := [16]) (by kernel_rfl) (by simp) ?_
      refine AllReadyH.cons (o := { dst := some 29, op := Go.Op.call { callee := Go.Callee.value (Go.Operand.func 94), args := #[Go.Operand.tmp 28], argTypes := #[207] }, type := 31, pos := "engine.go:166", after := #[{ on := 15, ground := Go.Ground.data }, { on := 14, ground := Go.Ground.chain }], guard := none }) rfl (fun K hK => ?_) AllReadyH.nil
      go_simp
      (refine (pjoin_any _ 0 4 4 (p4 2 1 4 1) (p4 seF (numB M 1) (numB last 4) (numB n 1)) _ (by decide) (fun i _ => by unfold p4; split <;> (try split) <;> (try split) <;> decide) hP15_5_0_9_14).mono ?_; rintro e w16_5_0_9_14 ⟨v16_5_0_9_14, rfl, hG16_5_0_9_14, hb16_5_0_9_14⟩; have E16_5_0_9_14 : EB w w.heap.size #[.slice oa n cp, .int .u32 (last : Int), .int .i64 (M : Int)] 79 (encL V 0) (encF n last M V 0) v16_5_0_9_14 w16_5_0_9_14 := EB.mk hG16_5_0_9_14 (Nat.succ_pos 7) (enc_head_eq HN8.out HM8.out) HLT0.out B15_5_0_9_14 hb16_5_0_9_14 O15_5_0_9_14; have B16_5_0_9_14 := Blk.below B15_5_0_9_14 hb16_5_0_9_14 (Blk.lt B15_5_0_9_14); have x16_5_0_9_14_0 : w16_5_0_9_14.cell? ⟨w.heap.size, 0, none⟩ = some (.slice oa n cp) := Blk.cell B16_5_0_9_14 0; have x16_5_0_9_14_1 : w16_5_0_9_14.cell? ⟨w.heap.size, 1, none⟩ = some (.int .u32 (last : Int)) := Blk.cell B16_5_0_9_14 1; have x16_5_0_9_14_2 : w16_5_0_9_14.cell? ⟨w.heap.size, 2, none⟩ = some (.int .i64 (M : Int)) := Blk.cell B16_5_0_9_14 2; clear B15_5_0_9_14 O15_5_0_9_14 x15_5_0_9_14_0 x15_5_0_9_14_1 x15_5_0_9_14_2 hP15_5_0_9_14 hG16_5_0_9_14 hb16_5_0_9_14 B16_5_0_9_14; skip)
      (try go_wp2_with fail)
      refine hK.out _ _ ?_ (fun hHeld => ?_)
      · (try dsimp only)
        go_keep
      clear hK K
      (try simp only [Act.put, List.setIfInBounds_toArray, List.set_cons_zero, List.set_cons_succ])
      refine wpAnyH_take (i := 17) (oi := { dst := some 5, op := Go.Op.assign (Go.Operand.tmp 29), type := 31, pos := "engine.go:166", after := #[{ on := 16, ground := Go.Ground.data }, { on := 16, ground := Go.Ground.chain }, { on := 0, ground := Go.Ground.phase }, { on := 1, ground := Go.Ground.phase }, { on := 2, ground := Go.Ground.phase }, { on := 3, ground := Go.Ground.phase }, { on := 4, ground := Go.Ground.phase }, { on := 5, ground := Go.Ground.phase }, { on := 6, ground := Go.Ground.phase }, { on := 7, ground := Go.Ground.phase }, { on := 8, ground := Go.Ground.phase }, { on := 9, ground := Go.Ground.phase }, { on := 10, ground := Go.Ground.phase }, { on := 11, ground := Go.Ground.phase }, { on := 12, ground := Go.Ground.phase }, { on := 13, ground := Go.Ground.phase }, { on := 14, ground := Go.Ground.phase }, { on := 15, ground := Go.Ground.phase }, { on := 16, ground := Go.Ground.phase }], guard := none }) (v := ?_) rfl (by kernel_rfl) (by kernel_rfl) (by kernel_rfl) (fun _ _ _ h => h) (Or.inl ⟨by rfl, ?_⟩) (by assumption) ?_
      rotate_left
      · intro w hSw
        (try dsimp only at hSw)
        go_simp
        (try with_reducible rfl)
      (try simp only [Act.put, List.setIfInBounds_toArray, List.set_cons_zero, List.set_cons_succ])
      refine wpAnyH_done (by kernel_rfl) ?_ _
      clear x16_5_0_9_14_0 x16_5_0_9_14_1 x16_5_0_9_14_2
      go_wp2_with fail
      go_meet
      exact E16_5_0_9_14
    refine AllReadyH.cons (o := { dst := some 22, op := Go.Op.call { callee := Go.Callee.value (Go.Operand.func 95), args := #[Go.Operand.tmp 21, Go.Operand.const (Go.Value.int Go.IntKind.i64 4)], argTypes := #[22, 3] }, type := 31, pos := "engine.go:166", after := #[{ on := 8, ground := Go.Ground.data }, { on := 5, ground := Go.Ground.chain }], guard := none }) rfl (fun K hK => ?_) AllReadyH.nil
    go_simp
    (refine (pnum_any last 4 _ HL.out (by decide) (by decide)).mono ?_; rintro e w9_5_9 ⟨rfl, hR9_5_9, hb9_5_9⟩; have B9_5_9 := Blk.below B5_5 hb9_5_9 (Blk.lt B5_5); have O9_5_9 := Below.trans O5_5 (hb9_5_9.mono O5_5.size); have Hm9_5_9 := Bytes.later Hm5_5 hb9_5_9; have Hl9_5_9 : Bytes w9_5_9 (some ⟨w5_5.heap.size, 0, none⟩) 4 (numB last 4) := Row.bytes hR9_5_9 (fun i _ => numB_lt _ _ i); have x9_5_9_0 : w9_5_9.cell? ⟨w.heap.size, 0, none⟩ = some (.slice oa n cp) := Blk.cell B9_5_9 0; have x9_5_9_1 : w9_5_9.cell? ⟨w.heap.size, 1, none⟩ = some (.int .u32 (last : Int)) := Blk.cell B9_5_9 1; have x9_5_9_2 : w9_5_9.cell? ⟨w.heap.size, 2, none⟩ = some (.int .i64 (M : Int)) := Blk.cell B9_5_9 2; clear B5_5 O5_5 x5_5_0 x5_5_1 x5_5_2 Hm5_5 hR9_5_9 hb9_5_9; skip)
    (try go_wp2_with fail)
    refine hK.out _ _ ?_ (fun hHeld => ?_)
    · (try dsimp only)
      go_keep
    clear hK K
    (try simp only [Act.put, List.setIfInBounds_toArray, List.set_cons_zero, List.set_cons_succ])
    refine wpAnyH_ready (rs := [0, 14]) (by kernel_rfl) (by simp) ?_
    refine AllReadyH.cons (o := { dst := some 13, op := Go.Op.buildSlice 31 2 #[(0, Go.Operand.const (Go.Value.int Go.IntKind.u8 115)), (1, Go.Operand.const (Go.Value.int Go.IntKind.u8 101))], type := 31, pos := "engine.go:166", after := #[], guard := none }) rfl (fun K hK => ?_) ?_
    · skip
      go_simp
      (obtain ⟨w0_5_9_0, hw0_5_9_0⟩ : ∃ q, w9_5_9.alloc (.cells #[.int .u8 115, .int .u8 101] 5) = q := ⟨_, rfl⟩; rw [hw0_5_9_0]; have hb0_5_9_0 : Below w9_5_9.heap.size w9_5_9 w0_5_9_0 := (by rw [← hw0_5_9_0]; exact (Below.refl _ _).alloc (Nat.le_refl _) _); have gl0_5_9_0 := Lib.hid (show w.heap.size < w9_5_9.heap.size from Blk.lt B9_5_9); have raw0_5_9_0 : Blk w0_5_9_0 w9_5_9.heap.size #[.int .u8 115, .int .u8 101] 5 := (by rw [← hw0_5_9_0]; exact Blk.new _ _ _); clear hw0_5_9_0; have B0_5_9_0 := Blk.below B9_5_9 hb0_5_9_0 (Blk.lt B9_5_9); have O0_5_9_0 := Below.trans O9_5_9 (hb0_5_9_0.mono O9_5_9.size); have Hm0_5_9_0 := Bytes.later Hm9_5_9 hb0_5_9_0; have Hl0_5_9_0 := Bytes.later Hl9_5_9 hb0_5_9_0; have x0_5_9_0_0 : w0_5_9_0.cell? ⟨w.heap.size, 0, none⟩ = some (.slice oa n cp) := Blk.cell B0_5_9_0 0; have x0_5_9_0_1 : w0_5_9_0.cell? ⟨w.heap.size, 1, none⟩ = some (.int .u32 (last : Int)) := Blk.cell B0_5_9_0 1; have x0_5_9_0_2 : w0_5_9_0.cell? ⟨w.heap.size, 2, none⟩ = some (.int .i64 (M : Int)) := Blk.cell B0_5_9_0 2; clear B9_5_9 O9_5_9 x9_5_9_0 x9_5_9_1 x9_5_9_2 Hm9_5_9 Hl9_5_9 hb0_5_9_0; have cv0_5_9_0 := conv_self 2 2 raw0_5_9_0; skip)
      (try go_wp2_with fail)
      refine hK.out _ _ ?_ (fun hHeld => ?_)
      · (try dsimp only)
        go_keep
      clear hK K
      (try simp only [Act.put, List.setIfInBounds_toArray, List.set_cons_zero, List.set_cons_succ])
      refine wpAnyH_ready (rs := [1, 14]) (by kernel_rfl) (by simp) ?_
      refine AllReadyH.cons (o := { dst := some 14, op := Go.Op.convert 31 31 (Go.Operand.tmp 13), type := 31, pos := "engine.go:166", after := #[{ on := 0, ground := Go.Ground.data }], guard := none }) rfl (fun K hK => ?_) ?_
      · skip
        go_simp
        (obtain ⟨w1_5_9_0_1, hw1_5_9_0_1⟩ : ∃ q, w0_5_9_0.freeze ⟨w9_5_9.heap.size, 2, none⟩ 1 = q := ⟨_, rfl⟩; have hO1_5_9_0_1 : Own (w9_5_9.heap.size) w0_5_9_0 w1_5_9_0_1 := (by rw [← hw1_5_9_0_1]; exact own_freeze); have Hse1_5_9_0_1 : Bytes w1_5_9_0_1 (some ⟨w9_5_9.heap.size, 0, none⟩) 2 seF := (by rw [← hw1_5_9_0_1]; exact Bytes.freeze (se_bytes raw0_5_9_0)); have Hm1_5_9_0_1 : Bytes w1_5_9_0_1 _ _ _ := (by rw [← hw1_5_9_0_1]; exact Bytes.freeze Hm0_5_9_0); have Hl1_5_9_0_1 : Bytes w1_5_9_0_1 _ _ _ := (by rw [← hw1_5_9_0_1]; exact Bytes.freeze Hl0_5_9_0); have e1_5_9_0_1 : (Array.mk [Value.int .u8 115, Value.int .u8 101]).size = 2 := rfl; have B1_5_9_0_1 := Own.blk hO1_5_9_0_1 B0_5_9_0 (by have := gl0_5_9_0.out; omega); have O1_5_9_0_1 := Below.trans O0_5_9_0 (Own.below hO1_5_9_0_1 (by have := gl0_5_9_0.out; omega) O0_5_9_0.size); have x1_5_9_0_1_0 : w1_5_9_0_1.cell? ⟨w.heap.size, 0, none⟩ = some (.slice oa n cp) := Blk.cell B1_5_9_0_1 0; have x1_5_9_0_1_1 : w1_5_9_0_1.cell? ⟨w.heap.size, 1, none⟩ = some (.int .u32 (last : Int)) := Blk.cell B1_5_9_0_1 1; have x1_5_9_0_1_2 : w1_5_9_0_1.cell? ⟨w.heap.size, 2, none⟩ = some (.int .i64 (M : Int)) := Blk.cell B1_5_9_0_1 2; rw [hw1_5_9_0_1]; clear B0_5_9_0 O0_5_9_0 x0_5_9_0_0 x0_5_9_0_1 x0_5_9_0_2 Hm0_5_9_0 Hl0_5_9_0 raw0_5_9_0 cv0_5_9_0 hO1_5_9_0_1 e1_5_9_0_1 hw1_5_9_0_1; skip)
        (try go_wp2_with fail)
        refine hK.out _ _ ?_ (fun hHeld => ?_)
        · (try dsimp only)
          go_keep
        clear hK K
        (try simp only [Act.put, List.setIfInBounds_toArray, List.set_cons_zero, List.set_cons_succ])
        refine wpAnyH_ready (rs := [14]) (by kernel_rfl) (by simp) ?_
        refine AllReadyH.cons (o := { dst := some 27, op := Go.Op.call { callee := Go.Callee.value (Go.Operand.func 95), args := #[Go.Operand.tmp 26, Go.Operand.const (Go.Value.int Go.IntKind.i64 1)], argTypes := #[22, 3] }, type := 31, pos := "engine.go:166", after := #[{ on := 13, ground := Go.Ground.data }, { on := 9, ground := Go.Ground.chain }], guard := none }) rfl (fun K hK => ?_) AllReadyH.nil
        go_simp
        (refine (pnum_any n 1 _ HN.out (by decide) (by decide)).mono ?_; rintro e w14_5_9_0_1 ⟨rfl, hR14_5_9_0_1, hb14_5_9_0_1⟩; have B14_5_9_0_1 := Blk.below B1_5_9_0_1 hb14_5_9_0_1 (Blk.lt B1_5_9_0_1); have O14_5_9_0_1 := Below.trans O1_5_9_0_1 (hb14_5_9_0_1.mono O1_5_9_0_1.size); have Hm14_5_9_0_1 := Bytes.later Hm1_5_9_0_1 hb14_5_9_0_1; have Hl14_5_9_0_1 := Bytes.later Hl1_5_9_0_1 hb14_5_9_0_1; have Hse14_5_9_0_1 := Bytes.later Hse1_5_9_0_1 hb14_5_9_0_1; have Hc14_5_9_0_1 : Bytes w14_5_9_0_1 (some ⟨w1_5_9_0_1.heap.size, 0, none⟩) 1 (numB n 1) := Row.bytes hR14_5_9_0_1 (fun i _ => numB_lt _ _ i); have x14_5_9_0_1_0 : w14_5_9_0_1.cell? ⟨w.heap.size, 0, none⟩ = some (.slice oa n cp) := Blk.cell B14_5_9_0_1 0; have x14_5_9_0_1_1 : w14_5_9_0_1.cell? ⟨w.heap.size, 1, none⟩ = some (.int .u32 (last : Int)) := Blk.cell B14_5_9_0_1 1; have x14_5_9_0_1_2 : w14_5_9_0_1.cell? ⟨w.heap.size, 2, none⟩ = some (.int .i64 (M : Int)) := Blk.cell B14_5_9_0_1 2; clear B1_5_9_0_1 O1_5_9_0_1 x1_5_9_0_1_0 x1_5_9_0_1_1 x1_5_9_0_1_2 Hm1_5_9_0_1 Hl1_5_9_0_1 Hse1_5_9_0_1 hR14_5_9_0_1 hb14_5_9_0_1; skip)
        (try go_wp2_with fail)
        refine hK.out _ _ ?_ (fun hHeld => ?_)
        · (try dsimp only)
          go_keep
        clear hK K
        (try simp only [Act.put, List.setIfInBounds_toArray, List.set_cons_zero, List.set_cons_succ])
        refine wpAnyH_ready (rs := [15]) (by kernel_rfl) (by simp) ?_
        refine AllReadyH.cons (o := { dst := some 28, op := Go.Op.buildSlice 207 4 #[(0, Go.Operand.tmp 14), (1, Go.Operand.tmp 18), (2, Go.Operand.tmp 22), (3, Go.Operand.tmp 27)], type := 207, pos := "engine.go:166", after := #[{ on := 1, ground := Go.Ground.data }, { on := 5, ground := Go.Ground.data }, { on := 9, ground := Go.Ground.data }, { on := 14, ground := Go.Ground.data }], guard := none }) rfl (fun K hK => ?_) AllReadyH.nil
        go_simp
        (have hP15_5_9_0_1 := parts4 (c0 := 2) (c1 := 1) (c2 := 4) (c3 := 1) Hse14_5_9_0_1 Hm14_5_9_0_1 Hl14_5_9_0_1 Hc14_5_9_0_1 w14_5_9_0_1.heap.size rfl; obtain ⟨w15_5_9_0_1, hw15_5_9_0_1⟩ : ∃ q, w14_5_9_0_1.alloc (.cells #[.slice (some ⟨w9_5_9.heap.size, 0, none⟩) 2 2, .slice (some ⟨w1.heap.size, 0, none⟩) 1 1, .slice (some ⟨w5_5.heap.size, 0, none⟩) 4 4, .slice (some ⟨w1_5_9_0_1.heap.size, 0, none⟩) 1 1] 31) = q := ⟨_, rfl⟩; rw [hw15_5_9_0_1] at hP15_5_9_0_1; rw [hw15_5_9_0_1]; have hb15_5_9_0_1 : Below w14_5_9_0_1.heap.size w14_5_9_0_1 w15_5_9_0_1 := (by rw [← hw15_5_9_0_1]; exact (Below.refl _ _).alloc (Nat.le_refl _) _); clear hw15_5_9_0_1; have B15_5_9_0_1 := Blk.below B14_5_9_0_1 hb15_5_9_0_1 (Blk.lt B14_5_9_0_1); have O15_5_9_0_1 := Below.trans O14_5_9_0_1 (hb15_5_9_0_1.mono O14_5_9_0_1.size); have x15_5_9_0_1_0 : w15_5_9_0_1.cell? ⟨w.heap.size, 0, none⟩ = some (.slice oa n cp) := Blk.cell B15_5_9_0_1 0; have x15_5_9_0_1_1 : w15_5_9_0_1.cell? ⟨w.heap.size, 1, none⟩ = some (.int .u32 (last : Int)) := Blk.cell B15_5_9_0_1 1; have x15_5_9_0_1_2 : w15_5_9_0_1.cell? ⟨w.heap.size, 2, none⟩ = some (.int .i64 (M : Int)) := Blk.cell B15_5_9_0_1 2; clear B14_5_9_0_1 O14_5_9_0_1 x14_5_9_0_1_0 x14_5_9_0_1_1 x14_5_9_0_1_2 Hm14_5_9_0_1 Hl14_5_9_0_1 Hse14_5_9_0_1 Hc14_5_9_0_1 hb15_5_9_0_1; skip)
        (try go_wp2_with fail)
        refine hK.out _ _ ?_ (fun hHeld => ?_)
        · (try dsimp only)
          go_keep
        clear hK K
        (try simp only [Act.put, List.setIfInBounds_toArray, List.set_cons_zero, List.set_cons_succ])
        refine wpAnyH_ready (rs := [16]) (by kernel_rfl) (by simp) ?_
        refine AllReadyH.cons (o := { dst := some 29, op := Go.Op.call { callee := Go.Callee.value (Go.Operand.func 94), args := #[Go.Operand.tmp 28], argTypes := #[207] }, type := 31, pos := "engine.go:166", after := #[{ on := 15, ground := Go.Ground.data }, { on := 14, ground := Go.Ground.chain }], guard := none }) rfl (fun K hK => ?_) AllReadyH.nil
        go_simp
        (refine (pjoin_any _ 0 4 4 (p4 2 1 4 1) (p4 seF (numB M 1) (numB last 4) (numB n 1)) _ (by decide) (fun i _ => by unfold p4; split <;> (try split) <;> (try split) <;> decide) hP15_5_9_0_1).mono ?_; rintro e w16_5_9_0_1 ⟨v16_5_9_0_1, rfl, hG16_5_9_0_1, hb16_5_9_0_1⟩; have E16_5_9_0_1 : EB w w.heap.size #[.slice oa n cp, .int .u32 (last : Int), .int .i64 (M : Int)] 79 (encL V 0) (encF n last M V 0) v16_5_9_0_1 w16_5_9_0_1 := EB.mk hG16_5_9_0_1 (Nat.succ_pos 7) (enc_head_eq HN8.out HM8.out) HLT0.out B15_5_9_0_1 hb16_5_9_0_1 O15_5_9_0_1; have B16_5_9_0_1 := Blk.below B15_5_9_0_1 hb16_5_9_0_1 (Blk.lt B15_5_9_0_1); have x16_5_9_0_1_0 : w16_5_9_0_1.cell? ⟨w.heap.size, 0, none⟩ = some (.slice oa n cp) := Blk.cell B16_5_9_0_1 0; have x16_5_9_0_1_1 : w16_5_9_0_1.cell? ⟨w.heap.size, 1, none⟩ = some (.int .u32 (last : Int)) := Blk.cell B16_5_9_0_1 1; have x16_5_9_0_1_2 : w16_5_9_0_1.cell? ⟨w.heap.size, 2, none⟩ = some (.int .i64 (M : Int)) := Blk.cell B16_5_9_0_1 2; clear B15_5_9_0_1 O15_5_9_0_1 x15_5_9_0_1_0 x15_5_9_0_1_1 x15_5_9_0_1_2 hP15_5_9_0_1 hG16_5_9_0_1 hb16_5_9_0_1 B16_5_9_0_1; skip)
        (try go_wp2_with fail)
        refine hK.out _ _ ?_ (fun hHeld => ?_)
        · (try dsimp only)
          go_keep
        clear hK K
        (try simp only [Act.put, List.setIfInBounds_toArray, List.set_cons_zero, List.set_cons_succ])
        refine wpAnyH_take (i := 17) (oi := { dst := some 5, op := Go.Op.assign (Go.Operand.tmp 29), type := 31, pos := "engine.go:166", after := #[{ on := 16, ground := Go.Ground.data }, { on := 16, ground := Go.Ground.chain }, { on := 0, ground := Go.Ground.phase }, { on := 1, ground := Go.Ground.phase }, { on := 2, ground := Go.Ground.phase }, { on := 3, ground := Go.Ground.phase }, { on := 4, ground := Go.Ground.phase }, { on := 5, ground := Go.Ground.phase }, { on := 6, ground := Go.Ground.phase }, { on := 7, ground := Go.Ground.phase }, { on := 8, ground := Go.Ground.phase }, { on := 9, ground := Go.Ground.phase }, { on := 10, ground := Go.Ground.phase }, { on := 11, ground := Go.Ground.phase }, { on := 12, ground := Go.Ground.phase }, { on := 13, ground := Go.Ground.phase }, { on := 14, ground := Go.Ground.phase }, { on := 15, ground := Go.Ground.phase }, { on := 16, ground := Go.Ground.phase }], guard := none }) (v := ?_) rfl (by kernel_rfl) (by kernel_rfl) (by kernel_rfl) (fun _ _ _ h => h) (Or.inl ⟨by rfl, ?_⟩) (by assumption) ?_
        rotate_left
        · intro w hSw
          (try dsimp only at hSw)
          go_simp
          (try with_reducible rfl)
        (try simp only [Act.put, List.setIfInBounds_toArray, List.set_cons_zero, List.set_cons_succ])
        refine wpAnyH_done (by kernel_rfl) ?_ _
        clear x16_5_9_0_1_0 x16_5_9_0_1_1 x16_5_9_0_1_2
        go_wp2_with fail
        go_meet
        exact E16_5_9_0_1
      refine AllReadyH.cons (o := { dst := some 27, op := Go.Op.call { callee := Go.Callee.value (Go.Operand.func 95), args := #[Go.Operand.tmp 26, Go.Operand.const (Go.Value.int Go.IntKind.i64 1)], argTypes := #[22, 3] }, type := 31, pos := "engine.go:166", after := #[{ on := 13, ground := Go.Ground.data }, { on := 9, ground := Go.Ground.chain }], guard := none }) rfl (fun K hK => ?_) AllReadyH.nil
      go_simp
      (refine (pnum_any n 1 _ HN.out (by decide) (by decide)).mono ?_; rintro e w14_5_9_0_14 ⟨rfl, hR14_5_9_0_14, hb14_5_9_0_14⟩; have B14_5_9_0_14 := Blk.below B0_5_9_0 hb14_5_9_0_14 (Blk.lt B0_5_9_0); have O14_5_9_0_14 := Below.trans O0_5_9_0 (hb14_5_9_0_14.mono O0_5_9_0.size); have Hm14_5_9_0_14 := Bytes.later Hm0_5_9_0 hb14_5_9_0_14; have Hl14_5_9_0_14 := Bytes.later Hl0_5_9_0 hb14_5_9_0_14; have Hc14_5_9_0_14 : Bytes w14_5_9_0_14 (some ⟨w0_5_9_0.heap.size, 0, none⟩) 1 (numB n 1) := Row.bytes hR14_5_9_0_14 (fun i _ => numB_lt _ _ i); have raw14_5_9_0_14 := Blk.below raw0_5_9_0 hb14_5_9_0_14 (Blk.lt raw0_5_9_0); have cv14_5_9_0_14 := conv_self 2 2 raw14_5_9_0_14; have x14_5_9_0_14_0 : w14_5_9_0_14.cell? ⟨w.heap.size, 0, none⟩ = some (.slice oa n cp) := Blk.cell B14_5_9_0_14 0; have x14_5_9_0_14_1 : w14_5_9_0_14.cell? ⟨w.heap.size, 1, none⟩ = some (.int .u32 (last : Int)) := Blk.cell B14_5_9_0_14 1; have x14_5_9_0_14_2 : w14_5_9_0_14.cell? ⟨w.heap.size, 2, none⟩ = some (.int .i64 (M : Int)) := Blk.cell B14_5_9_0_14 2; clear B0_5_9_0 O0_5_9_0 x0_5_9_0_0 x0_5_9_0_1 x0_5_9_0_2 Hm0_5_9_0 Hl0_5_9_0 raw0_5_9_0 cv0_5_9_0 hR14_5_9_0_14 hb14_5_9_0_14; skip)
      (try go_wp2_with fail)
      refine hK.out _ _ ?_ (fun hHeld => ?_)
      · (try dsimp only)
        go_keep
      clear hK K
      (try simp only [Act.put, List.setIfInBounds_toArray, List.set_cons_zero, List.set_cons_succ])
      refine wpAnyH_ready (rs := [1]) (by kernel_rfl) (by simp) ?_
      refine AllReadyH.cons (o := { dst := some 14, op := Go.Op.convert 31 31 (Go.Operand.tmp 13), type := 31, pos := "engine.go:166", after := #[{ on := 0, ground := Go.Ground.data }], guard := none }) rfl (fun K hK => ?_) AllReadyH.nil
      go_simp
      (obtain ⟨w1_5_9_0_14, hw1_5_9_0_14⟩ : ∃ q, w14_5_9_0_14.freeze ⟨w9_5_9.heap.size, 2, none⟩ 1 = q := ⟨_, rfl⟩; have hO1_5_9_0_14 : Own (w9_5_9.heap.size) w14_5_9_0_14 w1_5_9_0_14 := (by rw [← hw1_5_9_0_14]; exact own_freeze); have Hse1_5_9_0_14 : Bytes w1_5_9_0_14 (some ⟨w9_5_9.heap.size, 0, none⟩) 2 seF := (by rw [← hw1_5_9_0_14]; exact Bytes.freeze (se_bytes raw14_5_9_0_14)); have Hm1_5_9_0_14 : Bytes w1_5_9_0_14 _ _ _ := (by rw [← hw1_5_9_0_14]; exact Bytes.freeze Hm14_5_9_0_14); have Hl1_5_9_0_14 : Bytes w1_5_9_0_14 _ _ _ := (by rw [← hw1_5_9_0_14]; exact Bytes.freeze Hl14_5_9_0_14); have Hc1_5_9_0_14 : Bytes w1_5_9_0_14 _ _ _ := (by rw [← hw1_5_9_0_14]; exact Bytes.freeze Hc14_5_9_0_14); have e1_5_9_0_14 : (Array.mk [Value.int .u8 115, Value.int .u8 101]).size = 2 := rfl; have B1_5_9_0_14 := Own.blk hO1_5_9_0_14 B14_5_9_0_14 (by have := gl0_5_9_0.out; omega); have O1_5_9_0_14 := Below.trans O14_5_9_0_14 (Own.below hO1_5_9_0_14 (by have := gl0_5_9_0.out; omega) O14_5_9_0_14.size); have x1_5_9_0_14_0 : w1_5_9_0_14.cell? ⟨w.heap.size, 0, none⟩ = some (.slice oa n cp) := Blk.cell B1_5_9_0_14 0; have x1_5_9_0_14_1 : w1_5_9_0_14.cell? ⟨w.heap.size, 1, none⟩ = some (.int .u32 (last : Int)) := Blk.cell B1_5_9_0_14 1; have x1_5_9_0_14_2 : w1_5_9_0_14.cell? ⟨w.heap.size, 2, none⟩ = some (.int .i64 (M : Int)) := Blk.cell B1_5_9_0_14 2; rw [hw1_5_9_0_14]; clear B14_5_9_0_14 O14_5_9_0_14 x14_5_9_0_14_0 x14_5_9_0_14_1 x14_5_9_0_14_2 Hm14_5_9_0_14 Hl14_5_9_0_14 Hc14_5_9_0_14 raw14_5_9_0_14 cv14_5_9_0_14 hO1_5_9_0_14 e1_5_9_0_14 hw1_5_9_0_14; skip)
      (try go_wp2_with fail)
      refine hK.out _ _ ?_ (fun hHeld => ?_)
      · (try dsimp only)
        go_keep
      clear hK K
      (try simp only [Act.put, List.setIfInBounds_toArray, List.set_cons_zero, List.set_cons_succ])
      refine wpAnyH_ready (rs := [15]) (by kernel_rfl) (by simp) ?_
      refine AllReadyH.cons (o := { dst := some 28, op := Go.Op.buildSlice 207 4 #[(0, Go.Operand.tmp 14), (1, Go.Operand.tmp 18), (2, Go.Operand.tmp 22), (3, Go.Operand.tmp 27)], type := 207, pos := "engine.go:166", after := #[{ on := 1, ground := Go.Ground.data }, { on := 5, ground := Go.Ground.data }, { on := 9, ground := Go.Ground.data }, { on := 14, ground := Go.Ground.data }], guard := none }) rfl (fun K hK => ?_) AllReadyH.nil
      go_simp
      (have hP15_5_9_0_14 := parts4 (c0 := 2) (c1 := 1) (c2 := 4) (c3 := 1) Hse1_5_9_0_14 Hm1_5_9_0_14 Hl1_5_9_0_14 Hc1_5_9_0_14 w1_5_9_0_14.heap.size rfl; obtain ⟨w15_5_9_0_14, hw15_5_9_0_14⟩ : ∃ q, w1_5_9_0_14.alloc (.cells #[.slice (some ⟨w9_5_9.heap.size, 0, none⟩) 2 2, .slice (some ⟨w1.heap.size, 0, none⟩) 1 1, .slice (some ⟨w5_5.heap.size, 0, none⟩) 4 4, .slice (some ⟨w0_5_9_0.heap.size, 0, none⟩) 1 1] 31) = q := ⟨_, rfl⟩; rw [hw15_5_9_0_14] at hP15_5_9_0_14; rw [hw15_5_9_0_14]; have hb15_5_9_0_14 : Below w1_5_9_0_14.heap.size w1_5_9_0_14 w15_5_9_0_14 := (by rw [← hw15_5_9_0_14]; exact (Below.refl _ _).alloc (Nat.le_refl _) _); clear hw15_5_9_0_14; have B15_5_9_0_14 := Blk.below B1_5_9_0_14 hb15_5_9_0_14 (Blk.lt B1_5_9_0_14); have O15_5_9_0_14 := Below.trans O1_5_9_0_14 (hb15_5_9_0_14.mono O1_5_9_0_14.size); have x15_5_9_0_14_0 : w15_5_9_0_14.cell? ⟨w.heap.size, 0, none⟩ = some (.slice oa n cp) := Blk.cell B15_5_9_0_14 0; have x15_5_9_0_14_1 : w15_5_9_0_14.cell? ⟨w.heap.size, 1, none⟩ = some (.int .u32 (last : Int)) := Blk.cell B15_5_9_0_14 1; have x15_5_9_0_14_2 : w15_5_9_0_14.cell? ⟨w.heap.size, 2, none⟩ = some (.int .i64 (M : Int)) := Blk.cell B15_5_9_0_14 2; clear B1_5_9_0_14 O1_5_9_0_14 x1_5_9_0_14_0 x1_5_9_0_14_1 x1_5_9_0_14_2 Hm1_5_9_0_14 Hl1_5_9_0_14 Hc1_5_9_0_14 Hse1_5_9_0_14 hb15_5_9_0_14; skip)
      (try go_wp2_with fail)
      refine hK.out _ _ ?_ (fun hHeld => ?_)
      · (try dsimp only)
        go_keep
      clear hK K
      (try simp only [Act.put, List.setIfInBounds_toArray, List.set_cons_zero, List.set_cons_succ])
      refine wpAnyH_ready (rs := [16]) (by kernel_rfl) (by simp) ?_
      refine AllReadyH.cons (o := { dst := some 29, op := Go.Op.call { callee := Go.Callee.value (Go.Operand.func 94), args := #[Go.Operand.tmp 28], argTypes := #[207] }, type := 31, pos := "engine.go:166", after := #[{ on := 15, ground := Go.Ground.data }, { on := 14, ground := Go.Ground.chain }], guard := none }) rfl (fun K hK => ?_) AllReadyH.nil
      go_simp
      (refine (pjoin_any _ 0 4 4 (p4 2 1 4 1) (p4 seF (numB M 1) (numB last 4) (numB n 1)) _ (by decide) (fun i _ => by unfold p4; split <;> (try split) <;> (try split) <;> decide) hP15_5_9_0_14).mono ?_; rintro e w16_5_9_0_14 ⟨v16_5_9_0_14, rfl, hG16_5_9_0_14, hb16_5_9_0_14⟩; have E16_5_9_0_14 : EB w w.heap.size #[.slice oa n cp, .int .u32 (last : Int), .int .i64 (M : Int)] 79 (encL V 0) (encF n last M V 0) v16_5_9_0_14 w16_5_9_0_14 := EB.mk hG16_5_9_0_14 (Nat.succ_pos 7) (enc_head_eq HN8.out HM8.out) HLT0.out B15_5_9_0_14 hb16_5_9_0_14 O15_5_9_0_14; have B16_5_9_0_14 := Blk.below B15_5_9_0_14 hb16_5_9_0_14 (Blk.lt B15_5_9_0_14); have x16_5_9_0_14_0 : w16_5_9_0_14.cell? ⟨w.heap.size, 0, none⟩ = some (.slice oa n cp) := Blk.cell B16_5_9_0_14 0; have x16_5_9_0_14_1 : w16_5_9_0_14.cell? ⟨w.heap.size, 1, none⟩ = some (.int .u32 (last : Int)) := Blk.cell B16_5_9_0_14 1; have x16_5_9_0_14_2 : w16_5_9_0_14.cell? ⟨w.heap.size, 2, none⟩ = some (.int .i64 (M : Int)) := Blk.cell B16_5_9_0_14 2; clear B15_5_9_0_14 O15_5_9_0_14 x15_5_9_0_14_0 x15_5_9_0_14_1 x15_5_9_0_14_2 hP15_5_9_0_14 hG16_5_9_0_14 hb16_5_9_0_14 B16_5_9_0_14; skip)
      (try go_wp2_with fail)
      refine hK.out _ _ ?_ (fun hHeld => ?_)
      · (try dsimp only)
        go_keep
      clear hK K
      (try simp only [Act.put, List.setIfInBounds_toArray, List.set_cons_zero, List.set_cons_succ])
      refine wpAnyH_take (i := 17) (oi := { dst := some 5, op := Go.Op.assign (Go.Operand.tmp 29), type := 31, pos := "engine.go:166", after := #[{ on := 16, ground := Go.Ground.data }, { on := 16, ground := Go.Ground.chain }, { on := 0, ground := Go.Ground.phase }, { on := 1, ground := Go.Ground.phase }, { on := 2, ground := Go.Ground.phase }, { on := 3, ground := Go.Ground.phase }, { on := 4, ground := Go.Ground.phase }, { on := 5, ground := Go.Ground.phase }, { on := 6, ground := Go.Ground.phase }, { on := 7, ground := Go.Ground.phase }, { on := 8, ground := Go.Ground.phase }, { on := 9, ground := Go.Ground.phase }, { on := 10, ground := Go.Ground.phase }, { on := 11, ground := Go.Ground.phase }, { on := 12, ground := Go.Ground.phase }, { on := 13, ground := Go.Ground.phase }, { on := 14, ground := Go.Ground.phase }, { on := 15, ground := Go.Ground.phase }, { on := 16, ground := Go.Ground.phase }], guard := none }) (v := ?_) rfl (by kernel_rfl) (by kernel_rfl) (by kernel_rfl) (fun _ _ _ h => h) (Or.inl ⟨by rfl, ?_⟩) (by assumption) ?_
      rotate_left
      · intro w hSw
        (try dsimp only at hSw)
        go_simp
        (try with_reducible rfl)
      (try simp only [Act.put, List.setIfInBounds_toArray, List.set_cons_zero, List.set_cons_succ])
      refine wpAnyH_done (by kernel_rfl) ?_ _
      clear x16_5_9_0_14_0 x16_5_9_0_14_1 x16_5_9_0_14_2
      go_wp2_with fail
      go_meet
      exact E16_5_9_0_14
    refine AllReadyH.cons (o := { dst := some 27, op := Go.Op.call { callee := Go.Callee.value (Go.Operand.func 95), args := #[Go.Operand.tmp 26, Go.Operand.const (Go.Value.int Go.IntKind.i64 1)], argTypes := #[22, 3] }, type := 31, pos := "engine.go:166", after := #[{ on := 13, ground := Go.Ground.data }, { on := 9, ground := Go.Ground.chain }], guard := none }) rfl (fun K hK => ?_) AllReadyH.nil
    go_simp
    (refine (pnum_any n 1 _ HN.out (by decide) (by decide)).mono ?_; rintro e w14_5_9_14 ⟨rfl, hR14_5_9_14, hb14_5_9_14⟩; have B14_5_9_14 := Blk.below B9_5_9 hb14_5_9_14 (Blk.lt B9_5_9); have O14_5_9_14 := Below.trans O9_5_9 (hb14_5_9_14.mono O9_5_9.size); have Hm14_5_9_14 := Bytes.later Hm9_5_9 hb14_5_9_14; have Hl14_5_9_14 := Bytes.later Hl9_5_9 hb14_5_9_14; have Hc14_5_9_14 : Bytes w14_5_9_14 (some ⟨w9_5_9.heap.size, 0, none⟩) 1 (numB n 1) := Row.bytes hR14_5_9_14 (fun i _ => numB_lt _ _ i); have x14_5_9_14_0 : w14_5_9_14.cell? ⟨w.heap.size, 0, none⟩ = some (.slice oa n cp) := Blk.cell B14_5_9_14 0; have x14_5_9_14_1 : w14_5_9_14.cell? ⟨w.heap.size, 1, none⟩ = some (.int .u32 (last : Int)) := Blk.cell B14_5_9_14 1; have x14_5_9_14_2 : w14_5_9_14.cell? ⟨w.heap.size, 2, none⟩ = some (.int .i64 (M : Int)) := Blk.cell B14_5_9_14 2; clear B9_5_9 O9_5_9 x9_5_9_0 x9_5_9_1 x9_5_9_2 Hm9_5_9 Hl9_5_9 hR14_5_9_14 hb14_5_9_14; skip)
    (try go_wp2_with fail)
    refine hK.out _ _ ?_ (fun hHeld => ?_)
    · (try dsimp only)
      go_keep
    clear hK K
    (try simp only [Act.put, List.setIfInBounds_toArray, List.set_cons_zero, List.set_cons_succ])
    refine wpAnyH_ready (rs := [0]) (by kernel_rfl) (by simp) ?_
    refine AllReadyH.cons (o := { dst := some 13, op := Go.Op.buildSlice 31 2 #[(0, Go.Operand.const (Go.Value.int Go.IntKind.u8 115)), (1, Go.Operand.const (Go.Value.int Go.IntKind.u8 101))], type := 31, pos := "engine.go:166", after := #[], guard := none }) rfl (fun K hK => ?_) AllReadyH.nil
    go_simp
    (obtain ⟨w0_5_9_14, hw0_5_9_14⟩ : ∃ q, w14_5_9_14.alloc (.cells #[.int .u8 115, .int .u8 101] 5) = q := ⟨_, rfl⟩; rw [hw0_5_9_14]; have hb0_5_9_14 : Below w14_5_9_14.heap.size w14_5_9_14 w0_5_9_14 := (by rw [← hw0_5_9_14]; exact (Below.refl _ _).alloc (Nat.le_refl _) _); have gl0_5_9_14 := Lib.hid (show w.heap.size < w14_5_9_14.heap.size from Blk.lt B14_5_9_14); have raw0_5_9_14 : Blk w0_5_9_14 w14_5_9_14.heap.size #[.int .u8 115, .int .u8 101] 5 := (by rw [← hw0_5_9_14]; exact Blk.new _ _ _); clear hw0_5_9_14; have B0_5_9_14 := Blk.below B14_5_9_14 hb0_5_9_14 (Blk.lt B14_5_9_14); have O0_5_9_14 := Below.trans O14_5_9_14 (hb0_5_9_14.mono O14_5_9_14.size); have Hm0_5_9_14 := Bytes.later Hm14_5_9_14 hb0_5_9_14; have Hl0_5_9_14 := Bytes.later Hl14_5_9_14 hb0_5_9_14; have Hc0_5_9_14 := Bytes.later Hc14_5_9_14 hb0_5_9_14; have x0_5_9_14_0 : w0_5_9_14.cell? ⟨w.heap.size, 0, none⟩ = some (.slice oa n cp) := Blk.cell B0_5_9_14 0; have x0_5_9_14_1 : w0_5_9_14.cell? ⟨w.heap.size, 1, none⟩ = some (.int .u32 (last : Int)) := Blk.cell B0_5_9_14 1; have x0_5_9_14_2 : w0_5_9_14.cell? ⟨w.heap.size, 2, none⟩ = some (.int .i64 (M : Int)) := Blk.cell B0_5_9_14 2; clear B14_5_9_14 O14_5_9_14 x14_5_9_14_0 x14_5_9_14_1 x14_5_9_14_2 Hm14_5_9_14 Hl14_5_9_14 Hc14_5_9_14 hb0_5_9_14; have cv0_5_9_14 := conv_self 2 2 raw0_5_9_14; skip)
    (try go_wp2_with fail)
    refine hK.out _ _ ?_ (fun hHeld => ?_)
    · (try dsimp only)
      go_keep
    clear hK K
    (try simp only [Act.put, List.setIfInBounds_toArray, List.set_cons_zero, List.set_cons_succ])
    refine wpAnyH_ready (rs := [1]) (by kernel_rfl) (by simp) ?_
    refine AllReadyH.cons (o := { dst := some 14, op := Go.Op.convert 31 31 (Go.Operand.tmp 13), type := 31, pos := "engine.go:166", after := #[{ on := 0, ground := Go.Ground.data }], guard := none }) rfl (fun K hK => ?_) AllReadyH.nil
    go_simp
    (obtain ⟨w1_5_9_14, hw1_5_9_14⟩ : ∃ q, w0_5_9_14.freeze ⟨w14_5_9_14.heap.size, 2, none⟩ 1 = q := ⟨_, rfl⟩; have hO1_5_9_14 : Own (w14_5_9_14.heap.size) w0_5_9_14 w1_5_9_14 := (by rw [← hw1_5_9_14]; exact own_freeze); have Hse1_5_9_14 : Bytes w1_5_9_14 (some ⟨w14_5_9_14.heap.size, 0, none⟩) 2 seF := (by rw [← hw1_5_9_14]; exact Bytes.freeze (se_bytes raw0_5_9_14)); have Hm1_5_9_14 : Bytes w1_5_9_14 _ _ _ := (by rw [← hw1_5_9_14]; exact Bytes.freeze Hm0_5_9_14); have Hl1_5_9_14 : Bytes w1_5_9_14 _ _ _ := (by rw [← hw1_5_9_14]; exact Bytes.freeze Hl0_5_9_14); have Hc1_5_9_14 : Bytes w1_5_9_14 _ _ _ := (by rw [← hw1_5_9_14]; exact Bytes.freeze Hc0_5_9_14); have e1_5_9_14 : (Array.mk [Value.int .u8 115, Value.int .u8 101]).size = 2 := rfl; have B1_5_9_14 := Own.blk hO1_5_9_14 B0_5_9_14 (by have := gl0_5_9_14.out; omega); have O1_5_9_14 := Below.trans O0_5_9_14 (Own.below hO1_5_9_14 (by have := gl0_5_9_14.out; omega) O0_5_9_14.size); have x1_5_9_14_0 : w1_5_9_14.cell? ⟨w.heap.size, 0, none⟩ = some (.slice oa n cp) := Blk.cell B1_5_9_14 0; have x1_5_9_14_1 : w1_5_9_14.cell? ⟨w.heap.size, 1, none⟩ = some (.int .u32 (last : Int)) := Blk.cell B1_5_9_14 1; have x1_5_9_14_2 : w1_5_9_14.cell? ⟨w.heap.size, 2, none⟩ = some (.int .i64 (M : Int)) := Blk.cell B1_5_9_14 2; rw [hw1_5_9_14]; clear B0_5_9_14 O0_5_9_14 x0_5_9_14_0 x0_5_9_14_1 x0_5_9_14_2 Hm0_5_9_14 Hl0_5_9_14 Hc0_5_9_14 raw0_5_9_14 cv0_5_9_14 hO1_5_9_14 e1_5_9_14 hw1_5_9_14; skip)
    (try go_wp2_with fail)
    refine hK.out _ _ ?_ (fun hHeld => ?_)
    · (try dsimp only)
      go_keep
    clear hK K
    (try simp only [Act.put, List.setIfInBounds_toArray, List.set_cons_zero, List.set_cons_succ])
    refine wpAnyH_ready (rs := [15]) (by kernel_rfl) (by simp) ?_
    refine AllReadyH.cons (o := { dst := some 28, op := Go.Op.buildSlice 207 4 #[(0, Go.Operand.tmp 14), (1, Go.Operand.tmp 18), (2, Go.Operand.tmp 22), (3, Go.Operand.tmp 27)], type := 207, pos := "engine.go:166", after := #[{ on := 1, ground := Go.Ground.data }, { on := 5, ground := Go.Ground.data }, { on := 9, ground := Go.Ground.data }, { on := 14, ground := Go.Ground.data }], guard := none }) rfl (fun K hK => ?_) AllReadyH.nil
    go_simp
    (have hP15_5_9_14 := parts4 (c0 := 2) (c1 := 1) (c2 := 4) (c3 := 1) Hse1_5_9_14 Hm1_5_9_14 Hl1_5_9_14 Hc1_5_9_14 w1_5_9_14.heap.size rfl; obtain ⟨w15_5_9_14, hw15_5_9_14⟩ : ∃ q, w1_5_9_14.alloc (.cells #[.slice (some ⟨w14_5_9_14.heap.size, 0, none⟩) 2 2, .slice (some ⟨w1.heap.size, 0, none⟩) 1 1, .slice (some ⟨w5_5.heap.size, 0, none⟩) 4 4, .slice (some ⟨w9_5_9.heap.size, 0, none⟩) 1 1] 31) = q := ⟨_, rfl⟩; rw [hw15_5_9_14] at hP15_5_9_14; rw [hw15_5_9_14]; have hb15_5_9_14 : Below w1_5_9_14.heap.size w1_5_9_14 w15_5_9_14 := (by rw [← hw15_5_9_14]; exact (Below.refl _ _).alloc (Nat.le_refl _) _); clear hw15_5_9_14; have B15_5_9_14 := Blk.below B1_5_9_14 hb15_5_9_14 (Blk.lt B1_5_9_14); have O15_5_9_14 := Below.trans O1_5_9_14 (hb15_5_9_14.mono O1_5_9_14.size); have x15_5_9_14_0 : w15_5_9_14.cell? ⟨w.heap.size, 0, none⟩ = some (.slice oa n cp) := Blk.cell B15_5_9_14 0; have x15_5_9_14_1 : w15_5_9_14.cell? ⟨w.heap.size, 1, none⟩ = some (.int .u32 (last : Int)) := Blk.cell B15_5_9_14 1; have x15_5_9_14_2 : w15_5_9_14.cell? ⟨w.heap.size, 2, none⟩ = some (.int .i64 (M : Int)) := Blk.cell B15_5_9_14 2; clear B1_5_9_14 O1_5_9_14 x1_5_9_14_0 x1_5_9_14_1 x1_5_9_14_2 Hm1_5_9_14 Hl1_5_9_14 Hc1_5_9_14 Hse1_5_9_14 hb15_5_9_14; skip)
    (try go_wp2_with fail)
    refine hK.out _ _ ?_ (fun hHeld => ?_)
    · (try dsimp only)
      go_keep
    clear hK K
    (try simp only [Act.put, List.setIfInBounds_toArray, List.set_cons_zero, List.set_cons_succ])
    refine wpAnyH_ready (rs := [16]) (by kernel_rfl) (by simp) ?_
    refine AllReadyH.cons (o := { dst := some 29, op := Go.Op.call { callee := Go.Callee.value (Go.Operand.func 94), args := #[Go.Operand.tmp 28], argTypes := #[207] }, type := 31, pos := "engine.go:166", after := #[{ on := 15, ground := Go.Ground.data }, { on := 14, ground := Go.Ground.chain }], guard := none }) rfl (fun K hK => ?_) AllReadyH.nil
    go_simp
    (refine (pjoin_any _ 0 4 4 (p4 2 1 4 1) (p4 seF (numB M 1) (numB last 4) (numB n 1)) _ (by decide) (fun i _ => by unfold p4; split <;> (try split) <;> (try split) <;> decide) hP15_5_9_14).mono ?_; rintro e w16_5_9_14 ⟨v16_5_9_14, rfl, hG16_5_9_14, hb16_5_9_14⟩; have E16_5_9_14 : EB w w.heap.size #[.slice oa n cp, .int .u32 (last : Int), .int .i64 (M : Int)] 79 (encL V 0) (encF n last M V 0) v16_5_9_14 w16_5_9_14 := EB.mk hG16_5_9_14 (Nat.succ_pos 7) (enc_head_eq HN8.out HM8.out) HLT0.out B15_5_9_14 hb16_5_9_14 O15_5_9_14; have B16_5_9_14 := Blk.below B15_5_9_14 hb16_5_9_14 (Blk.lt B15_5_9_14); have x16_5_9_14_0 : w16_5_9_14.cell? ⟨w.heap.size, 0, none⟩ = some (.slice oa n cp) := Blk.cell B16_5_9_14 0; have x16_5_9_14_1 : w16_5_9_14.cell? ⟨w.heap.size, 1, none⟩ = some (.int .u32 (last : Int)) := Blk.cell B16_5_9_14 1; have x16_5_9_14_2 : w16_5_9_14.cell? ⟨w.heap.size, 2, none⟩ = some (.int .i64 (M : Int)) := Blk.cell B16_5_9_14 2; clear B15_5_9_14 O15_5_9_14 x15_5_9_14_0 x15_5_9_14_1 x15_5_9_14_2 hP15_5_9_14 hG16_5_9_14 hb16_5_9_14 B16_5_9_14; skip)
    (try go_wp2_with fail)
    refine hK.out _ _ ?_ (fun hHeld => ?_)
    · (try dsimp only)
      go_keep
    clear hK K
    (try simp only [Act.put, List.setIfInBounds_toArray, List.set_cons_zero, List.set_cons_succ])
    refine wpAnyH_take (i := 17) (oi := { dst := some 5, op := Go.Op.assign (Go.Operand.tmp 29), type := 31, pos := "engine.go:166", after := #[{ on := 16, ground := Go.Ground.data }, { on := 16, ground := Go.Ground.chain }, { on := 0, ground := Go.Ground.phase }, { on := 1, ground := Go.Ground.phase }, { on := 2, ground := Go.Ground.phase }, { on := 3, ground := Go.Ground.phase }, { on := 4, ground := Go.Ground.phase }, { on := 5, ground := Go.Ground.phase }, { on := 6, ground := Go.Ground.phase }, { on := 7, ground := Go.Ground.phase }, { on := 8, ground := Go.Ground.phase }, { on := 9, ground := Go.Ground.phase }, { on := 10, ground := Go.Ground.phase }, { on := 11, ground := Go.Ground.phase }, { on := 12, ground := Go.Ground.phase }, { on := 13, ground := Go.Ground.phase }, { on := 14, ground := Go.Ground.phase }, { on := 15, ground := Go.Ground.phase }, { on := 16, ground := Go.Ground.phase }], guard := none }) (v := ?_) rfl (by kernel_rfl) (by kernel_rfl) (by kernel_rfl) (fun _ _ _ h => h) (Or.inl ⟨by rfl, ?_⟩) (by assumption) ?_
    rotate_left
    · intro w hSw
      (try dsimp only at hSw)
      go_simp
      (try with_reducible rfl)
    (try simp only [Act.put, List.setIfInBounds_toArray, List.set_cons_zero, List.set_cons_succ])
    refine wpAnyH_done (by kernel_rfl) ?_ _
    clear x16_5_9_14_0 x16_5_9_14_1 x16_5_9_14_2
    go_wp2_with fail
    go_meet
    exact E16_5_9_14
  case rest =>
    have HE0 := Lib.hid hcut
    obtain ⟨g0, c0, e0, _, _, _, hBl0, _⟩ := hcut
    have y0_0 : wc.cell? ⟨w.heap.size, 0, none⟩ = some (.slice oa n cp) := Blk.cell hBl0 0
    have y0_1 : wc.cell? ⟨w.heap.size, 1, none⟩ = some (.int .u32 (last : Int)) := Blk.cell hBl0 1
    have y0_2 : wc.cell? ⟨w.heap.size, 2, none⟩ = some (.int .i64 (M : Int)) := Blk.cell hBl0 2
    clear e0 hBl0
    go_wp2_with fail
    go_loopw [5, 33] (fun v i wr => ∃ k : Nat, k ≤ n ∧ i = .int .i64 (k : Int) ∧ EB w w.heap.size #[.slice oa n cp, .int .u32 (last : Int), .int .i64 (M : Int)] 79 (encL V k) (encF n last M V k) v wr) (fun _ i _ => n - (intOf i).toNat)
    case atStart => exact ⟨0, Nat.zero_le _, rfl, HE0.out⟩
    case round =>
      obtain ⟨k, hk, rfl, hE⟩ := hrel
      by_cases hlt : k < n
      · obtain ⟨g, c, rfl, hc, hm, hBy, hBl, hO⟩ := hE
        obtain ⟨b, off, od, cap, rfl, hB, hno, hlc, hcm, c0, c1, c2, c3⟩ := (Vers.later HV0.out hO).get k hlt
        have hvk := (HS.out.2 k hlt).2
        obtain ⟨S, hSt⟩ : ∃ S : Nat, (V k).st = (S : Int) := ⟨(V k).st.toNat, by have := hvk.2.1; omega⟩
        have hS2 : S ≤ 2 := by have := hvk.2.2.1; omega
        have hl1 : (V k).len ≤ 100 := hvk.1
        have ht1 := HT.out k hlt
        have HEQ := Lib.hid (enc_round_eq (n := n) (last := last) (M := M) hSt (by omega) (by omega))
        have HLK := Lib.hid (HLT.out (k + 1) (by omega))
        have HLL := Lib.hid (show totL (p4 (encL V k) 8 1 ((V k).len + 1)) 4 = encL V (k + 1) by rw [totL4]; show _ = encL V k + (10 + (V k).len); omega)
        have HLP := Lib.hid (show 0 < encL V (k + 1) by have := encL_ge (V := V) (k := k + 1); omega)
        have HLB := Lib.hid (show encL V k ≤ 1000000 by have := encL_bound (V := V) (m := 100) (k := k) (fun i hi => (HS.out.2 i (by omega)).2.1); have hn := HN8.out; omega)
        obtain ⟨EN, hEN⟩ : ∃ x, encL V k = x := ⟨_, rfl⟩
        obtain ⟨EF, hEF⟩ : ∃ x, encF n last M V k = x := ⟨_, rfl⟩
        rw [hEN, hEF] at HEQ
        rw [hEN] at HLL HLB hc hBy ⊢
        rw [hEF] at hBy
        clear hEN hEF hvk
        obtain ⟨m, hmm⟩ : ∃ x, (V k).n = x := ⟨_, rfl⟩
        obtain ⟨len, hlen⟩ : ∃ x, (V k).len = x := ⟨_, rfl⟩
        obtain ⟨t, htt⟩ : ∃ x, (V k).t = x := ⟨_, rfl⟩
        obtain ⟨f, hff⟩ : ∃ x, (V k).f = x := ⟨_, rfl⟩
        rw [hlen, htt, hff] at HEQ
        rw [hlen] at HLL hl1 hlc hno c1
        rw [hlen, hff] at hB
        rw [htt] at ht1 c2
        rw [hmm] at c0
        rw [hSt] at c3
        clear hmm hlen htt hff hSt
        have k0 : (0 : Int) ≤ (k : Int) := by omega
        have k1 : (k : Int) < (n : Int) := by omega
        have s0 : (0 : Int) ≤ (S : Int) := by omega
        have s2 : (S : Int) ≤ 2 := by omega
        have HO := Lib.hid hO
        have HBL := Lib.hid hBl
        have HBy := Lib.hid (hBy.alloc (.cells #[.int .u32 (m : Int), .slice od len cap, .int .u64 (t : Int), .int .i64 (S : Int)] 86))
        have HB := Lib.hid (hB.alloc (.cells #[.int .u32 (m : Int), .slice od len cap, .int .u64 (t : Int), .int .i64 (S : Int)] 86))
        have HNO := Lib.hid hno
        have HT8 := Lib.hid ht1
        have HS8 := Lib.hid (show S < 18446744073709551616 by omega)
        have HL1 := Lib.hid hl1
        have T1 : Blk (wr.alloc (.cells #[.int .u32 (m : Int), .slice od len cap, .int .u64 (t : Int), .int .i64 (S : Int)] 86)) wr.heap.size #[.int .u32 (m : Int), .slice od len cap, .int .u64 (t : Int), .int .i64 (S : Int)] 86 := Blk.new _ _ _
        have z2 : (wr.alloc (.cells #[.int .u32 (m : Int), .slice od len cap, .int .u64 (t : Int), .int .i64 (S : Int)] 86)).cell? ⟨wr.heap.size, 2, none⟩ = some (.int .u64 (t : Int)) := Blk.cell T1 2
        have z1 : (wr.alloc (.cells #[.int .u32 (m : Int), .slice od len cap, .int .u64 (t : Int), .int .i64 (S : Int)] 86)).cell? ⟨wr.heap.size, 1, none⟩ = some (.slice od len cap) := Blk.cell T1 1
        have z3 : (wr.alloc (.cells #[.int .u32 (m : Int), .slice od len cap, .int .u64 (t : Int), .int .i64 (S : Int)] 86)).cell? ⟨wr.heap.size, 3, none⟩ = some (.int .i64 (S : Int)) := Blk.cell T1 3
        have HT1 := Lib.hid T1
        have w8s : IntKind.u64.wrap (S : Int) = (S : Int) := by rw [IntKind.wrap_u64]; omega
        clear hO hBl hBy hB hno ht1 hl1 hc hm hlc hcm hS2 T1 y0_0 y0_1 y0_2
        go_wp2_with fail
        refine wp_region_held_drew (S := (fun w' => w'.cell? ⟨wr.heap.size, 1, none⟩ = some (.slice od len cap) ∧ w'.cell? ⟨wr.heap.size, 2, none⟩ = some (.int .u64 (t : Int)) ∧ w'.cell? ⟨wr.heap.size, 3, none⟩ = some (.int .i64 (S : Int)))) (by kernel_rfl) ?_ (fun hHeld => ?_)
        · (try dsimp only)
          go_keep
        refine wpAnyH_take (i := 0) (oi := { dst := some 37, op := Go.Op.move (Go.Operand.tmp 5), type := 31, pos := "engine.go:168", after := #[], guard := none }) (v := ?_) rfl (by kernel_rfl) (by kernel_rfl) (by kernel_rfl) (fun _ _ _ h => h) (Or.inl ⟨by rfl, ?_⟩) (by assumption) ?_
        rotate_left
        · intro w hSw
          (try dsimp only at hSw)
          go_simp
          (try with_reducible rfl)
        (try simp only [Act.put, List.setIfInBounds_toArray, List.set_cons_zero, List.set_cons_succ])
        refine wpAnyH_take (i := 1) (oi := { dst := some 38, op := Go.Op.fieldAddr 86 (Go.Operand.tmp 7) 2, type := 0, pos := "engine.go:168", after := #[], guard := none }) (v := ?_) rfl (by kernel_rfl) (by kernel_rfl) (by kernel_rfl) (fun _ _ _ h => h) (Or.inl ⟨by rfl, ?_⟩) (by assumption) ?_
        rotate_left
        · intro w hSw
          (try dsimp only at hSw)
          go_simp
          (try with_reducible rfl)
        (try simp only [Act.put, List.setIfInBounds_toArray, List.set_cons_zero, List.set_cons_succ])
        refine wpAnyH_take (i := 2) (oi := { dst := some 39, op := Go.Op.load 22 (Go.Operand.tmp 38), type := 22, pos := "engine.go:168", after := #[{ on := 1, ground := Go.Ground.data }], guard := none }) (v := ?_) rfl (by kernel_rfl) (by kernel_rfl) (by kernel_rfl) (fun _ _ _ h => h) (Or.inl ⟨by rfl, ?_⟩) (by assumption) ?_
        rotate_left
        · intro w hSw
          (try dsimp only at hSw)
          go_simp
          (try with_reducible rfl)
        (try simp only [Act.put, List.setIfInBounds_toArray, List.set_cons_zero, List.set_cons_succ])
        refine wpAnyH_take (i := 4) (oi := { dst := some 41, op := Go.Op.fieldAddr 86 (Go.Operand.tmp 7) 3, type := 0, pos := "engine.go:168", after := #[], guard := none }) (v := ?_) rfl (by kernel_rfl) (by kernel_rfl) (by kernel_rfl) (fun _ _ _ h => h) (Or.inl ⟨by rfl, ?_⟩) (by assumption) ?_
        rotate_left
        · intro w hSw
          (try dsimp only at hSw)
          go_simp
          (try with_reducible rfl)
        (try simp only [Act.put, List.setIfInBounds_toArray, List.set_cons_zero, List.set_cons_succ])
        refine wpAnyH_take (i := 5) (oi := { dst := some 42, op := Go.Op.load 3 (Go.Operand.tmp 41), type := 3, pos := "engine.go:168", after := #[{ on := 4, ground := Go.Ground.data }], guard := none }) (v := ?_) rfl (by kernel_rfl) (by kernel_rfl) (by kernel_rfl) (fun _ _ _ h => h) (Or.inl ⟨by rfl, ?_⟩) (by assumption) ?_
        rotate_left
        · intro w hSw
          (try dsimp only at hSw)
          go_simp
          (try with_reducible rfl)
        (try simp only [Act.put, List.setIfInBounds_toArray, List.set_cons_zero, List.set_cons_succ])
        refine wpAnyH_take (i := 6) (oi := { dst := some 43, op := Go.Op.convert 3 22 (Go.Operand.tmp 42), type := 22, pos := "engine.go:168", after := #[{ on := 5, ground := Go.Ground.data }], guard := none }) (v := ?_) rfl (by kernel_rfl) (by kernel_rfl) (by kernel_rfl) (fun _ _ _ h => h) (Or.inl ⟨by rfl, ?_⟩) (by assumption) ?_
        rotate_left
        · intro w hSw
          (try dsimp only at hSw)
          go_simp
          (try with_reducible rfl)
        (try simp only [Act.put, List.setIfInBounds_toArray, List.set_cons_zero, List.set_cons_succ])
        refine wpAnyH_take (i := 8) (oi := { dst := some 45, op := Go.Op.fieldAddr 86 (Go.Operand.tmp 7) 1, type := 0, pos := "engine.go:168", after := #[], guard := none }) (v := ?_) rfl (by kernel_rfl) (by kernel_rfl) (by kernel_rfl) (fun _ _ _ h => h) (Or.inl ⟨by rfl, ?_⟩) (by assumption) ?_
        rotate_left
        · intro w hSw
          (try dsimp only at hSw)
          go_simp
          (try with_reducible rfl)
        (try simp only [Act.put, List.setIfInBounds_toArray, List.set_cons_zero, List.set_cons_succ])
        refine wpAnyH_take (i := 9) (oi := { dst := some 46, op := Go.Op.load 31 (Go.Operand.tmp 45), type := 31, pos := "engine.go:168", after := #[{ on := 8, ground := Go.Ground.data }], guard := none }) (v := ?_) rfl (by kernel_rfl) (by kernel_rfl) (by kernel_rfl) (fun _ _ _ h => h) (Or.inl ⟨by rfl, ?_⟩) (by assumption) ?_
        rotate_left
        · intro w hSw
          (try dsimp only at hSw)
          go_simp
          (try with_reducible rfl)
        (try simp only [Act.put, List.setIfInBounds_toArray, List.set_cons_zero, List.set_cons_succ])
        refine wpAnyH_ready (rs := [3]) (by kernel_rfl) (by simp) ?_
        refine AllReadyH.cons (o := { dst := some 40, op := Go.Op.call { callee := Go.Callee.value (Go.Operand.func 95), args := #[Go.Operand.tmp 39, Go.Operand.const (Go.Value.int Go.IntKind.i64 8)], argTypes := #[22, 3] }, type := 31, pos := "engine.go:168", after := #[{ on := 2, ground := Go.Ground.data }], guard := none }) rfl (fun K hK => ?_) AllReadyH.nil
        go_simp
        (refine (pnum_any t 8 _ HT8.out (by decide) (by decide)).mono ?_; rintro e w2 ⟨rfl, hR2, hb2⟩; have T2 := Blk.below (Blk.drew HT1.out) hb2 (by simp); have p1 : w2.cell? ⟨wr.heap.size, 1, none⟩ = some (.slice od len cap) := Blk.cell T2 1; have p2 : w2.cell? ⟨wr.heap.size, 2, none⟩ = some (.int .u64 (t : Int)) := Blk.cell T2 2; have p3 : w2.cell? ⟨wr.heap.size, 3, none⟩ = some (.int .i64 (S : Int)) := Blk.cell T2 3; have HT2 := Lib.hid T2; have HR2 := Lib.hid hR2; have HB2 := Lib.hid hb2; clear T2 hR2 hb2 z1 z2 z3; skip)
        (try go_wp2_with fail)
        refine hK.out _ _ ?_ (fun hHeld => ?_)
        · (try dsimp only)
          go_keep
        clear hK K
        (try simp only [Act.put, List.setIfInBounds_toArray, List.set_cons_zero, List.set_cons_succ])
        refine wpAnyH_ready (rs := [7]) (by kernel_rfl) (by simp) ?_
        refine AllReadyH.cons (o := { dst := some 44, op := Go.Op.call { callee := Go.Callee.value (Go.Operand.func 95), args := #[Go.Operand.tmp 43, Go.Operand.const (Go.Value.int Go.IntKind.i64 1)], argTypes := #[22, 3] }, type := 31, pos := "engine.go:168", after := #[{ on := 6, ground := Go.Ground.data }, { on := 3, ground := Go.Ground.chain }], guard := none }) rfl (fun K hK => ?_) AllReadyH.nil
        go_simp
        (refine (pnum_any S 1 _ HS8.out (by decide) (by decide)).mono ?_; rintro e w3 ⟨rfl, hR3, hb3⟩; have T3 := Blk.below HT2.out hb3 (Blk.lt HT2.out); have q1 : w3.cell? ⟨wr.heap.size, 1, none⟩ = some (.slice od len cap) := Blk.cell T3 1; have q2 : w3.cell? ⟨wr.heap.size, 2, none⟩ = some (.int .u64 (t : Int)) := Blk.cell T3 2; have q3 : w3.cell? ⟨wr.heap.size, 3, none⟩ = some (.int .i64 (S : Int)) := Blk.cell T3 3; have HT3 := Lib.hid T3; have HR3 := Lib.hid hR3; have HB3 := Lib.hid hb3; clear T3 hR3 hb3 p1 p2 p3; skip)
        (try go_wp2_with fail)
        refine hK.out _ _ ?_ (fun hHeld => ?_)
        · (try dsimp only)
          go_keep
        clear hK K
        (try simp only [Act.put, List.setIfInBounds_toArray, List.set_cons_zero, List.set_cons_succ])
        refine wpAnyH_ready (rs := [10]) (by kernel_rfl) (by simp) ?_
        refine AllReadyH.cons (o := { dst := some 47, op := Go.Op.call { callee := Go.Callee.value (Go.Operand.func 96), args := #[Go.Operand.tmp 46], argTypes := #[31] }, type := 31, pos := "engine.go:168", after := #[{ on := 9, ground := Go.Ground.data }, { on := 7, ground := Go.Ground.chain }], guard := none }) rfl (fun K hK => ?_) AllReadyH.nil
        go_simp
        (refine (pbytes_any od len cap f _ (((show Bytes (wr.alloc (.cells #[.int .u32 (m : Int), .slice od len cap, .int .u64 (t : Int), .int .i64 (S : Int)] 86)).drew _ _ _ from HB.out).later HB2.out).later HB3.out) (by have := HL1.out; omega) HNO.out).mono ?_; rintro e w4 ⟨v4, rfl, hG4, hb4⟩; obtain ⟨g4, c4, rfl, hg4, hc4, hm4⟩ := hG4.some (Nat.succ_pos _); obtain ⟨oa4, c4', he4, hBy4, _⟩ := hG4.bytes (lenF_lt (fun i hi => (HB.out i hi).1)); cases he4; have hby : Bytes w4 (some ⟨g, 0, none⟩) EN EF := ((((show Bytes (wr.alloc (.cells #[.int .u32 (m : Int), .slice od len cap, .int .u64 (t : Int), .int .i64 (S : Int)] 86)).drew _ _ _ from HBy.out)).later HB2.out).later HB3.out).later hb4; have hr2 : Bytes w4 (some ⟨wr.heap.size + 1, 0, none⟩) 8 (numB t 8) := (by have := (((Row.bytes HR2.out (fun i _ => numB_lt _ _ i)).later HB3.out).later hb4); simpa using this); have hr3 : Bytes w4 (some ⟨w2.heap.size, 0, none⟩) 1 (numB S 1) := (Row.bytes HR3.out (fun i _ => numB_lt _ _ i)).later hb4; have HP := Lib.hid (parts4 (c0 := c) (c1 := 8) (c2 := 1) (c3 := c4) hby hr2 hr3 hBy4 w4.heap.size rfl); have T4 := Blk.below HT3.out hb4 (Blk.lt HT3.out); have r1 : w4.cell? ⟨wr.heap.size, 1, none⟩ = some (.slice od len cap) := Blk.cell T4 1; have r2 : w4.cell? ⟨wr.heap.size, 2, none⟩ = some (.int .u64 (t : Int)) := Blk.cell T4 2; have r3 : w4.cell? ⟨wr.heap.size, 3, none⟩ = some (.int .i64 (S : Int)) := Blk.cell T4 3; have hOa : Below w.heap.size w (wr.alloc (.cells #[.int .u32 (m : Int), .slice od len cap, .int .u64 (t : Int), .int .i64 (S : Int)] 86)).drew := (HO.out.alloc HO.out.size _).drew; have hO4 : Below w.heap.size w w4 := ((hOa.trans (HB2.out.mono hOa.size)).trans (HB3.out.mono (Nat.le_trans hOa.size HB2.out.size))).trans (hb4.mono (Nat.le_trans (Nat.le_trans hOa.size HB2.out.size) HB3.out.size)); have HO4 := Lib.hid (hO4.alloc hO4.size (.cells #[.slice (some ⟨g, 0, none⟩) EN c, .slice (some ⟨wr.heap.size + 1, 0, none⟩) 8 8, .slice (some ⟨w2.heap.size, 0, none⟩) 1 1, .slice (some ⟨g4, 0, none⟩) (len + 1) c4] 31)); have hXa : Blk (wr.alloc (.cells #[.int .u32 (m : Int), .slice od len cap, .int .u64 (t : Int), .int .i64 (S : Int)] 86)).drew w.heap.size #[.slice (some ⟨b, off, none⟩) n cp, .int .u32 (last : Int), .int .i64 (M : Int)] 79 := HBL.out.alloc _; have hX2 := Blk.below hXa HB2.out (Blk.lt hXa); have hX3 := Blk.below hX2 HB3.out (Blk.lt hX2); have hX4 := Blk.below hX3 hb4 (Blk.lt hX3); have HX4 := Lib.hid (hX4.alloc (.cells #[.slice (some ⟨g, 0, none⟩) EN c, .slice (some ⟨wr.heap.size + 1, 0, none⟩) 8 8, .slice (some ⟨w2.heap.size, 0, none⟩) 1 1, .slice (some ⟨g4, 0, none⟩) (len + 1) c4] 31)); have HT4 := Lib.hid T4; clear hG4 hb4 hg4 hc4 hm4 hBy4 hby hr2 hr3 hO4 hOa hXa hX2 hX3 hX4 T4 q1 q2 q3; skip)
        (try go_wp2_with fail)
        refine hK.out _ _ ?_ (fun hHeld => ?_)
        · (try dsimp only)
          go_keep
        clear hK K
        (try simp only [Act.put, List.setIfInBounds_toArray, List.set_cons_zero, List.set_cons_succ])
        refine wpAnyH_ready (rs := [11]) (by kernel_rfl) (by simp) ?_
        refine AllReadyH.cons (o := { dst := some 48, op := Go.Op.buildSlice 207 4 #[(0, Go.Operand.tmp 37), (1, Go.Operand.tmp 40), (2, Go.Operand.tmp 44), (3, Go.Operand.tmp 47)], type := 207, pos := "engine.go:168", after := #[{ on := 0, ground := Go.Ground.data }, { on := 3, ground := Go.Ground.data }, { on := 7, ground := Go.Ground.data }, { on := 10, ground := Go.Ground.data }], guard := none }) rfl (fun K hK => ?_) AllReadyH.nil
        go_simp
        (have T5 := Blk.alloc HT4.out (.cells #[.slice (some ⟨g, 0, none⟩) EN c, .slice (some ⟨wr.heap.size + 1, 0, none⟩) 8 8, .slice (some ⟨w2.heap.size, 0, none⟩) 1 1, .slice (some ⟨g4, 0, none⟩) (len + 1) c4] 31); have s1 : (w4.alloc (.cells #[.slice (some ⟨g, 0, none⟩) EN c, .slice (some ⟨wr.heap.size + 1, 0, none⟩) 8 8, .slice (some ⟨w2.heap.size, 0, none⟩) 1 1, .slice (some ⟨g4, 0, none⟩) (len + 1) c4] 31)).cell? ⟨wr.heap.size, 1, none⟩ = some (.slice od len cap) := Blk.cell T5 1; have s2 : (w4.alloc (.cells #[.slice (some ⟨g, 0, none⟩) EN c, .slice (some ⟨wr.heap.size + 1, 0, none⟩) 8 8, .slice (some ⟨w2.heap.size, 0, none⟩) 1 1, .slice (some ⟨g4, 0, none⟩) (len + 1) c4] 31)).cell? ⟨wr.heap.size, 2, none⟩ = some (.int .u64 (t : Int)) := Blk.cell T5 2; have s3 : (w4.alloc (.cells #[.slice (some ⟨g, 0, none⟩) EN c, .slice (some ⟨wr.heap.size + 1, 0, none⟩) 8 8, .slice (some ⟨w2.heap.size, 0, none⟩) 1 1, .slice (some ⟨g4, 0, none⟩) (len + 1) c4] 31)).cell? ⟨wr.heap.size, 3, none⟩ = some (.int .i64 (S : Int)) := Blk.cell T5 3; clear r1 r2 r3; have HT5 := Lib.hid T5; clear T5; skip)
        (try go_wp2_with fail)
        refine hK.out _ _ ?_ (fun hHeld => ?_)
        · (try dsimp only)
          go_keep
        clear hK K
        (try simp only [Act.put, List.setIfInBounds_toArray, List.set_cons_zero, List.set_cons_succ])
        refine wpAnyH_ready (rs := [12]) (by kernel_rfl) (by simp) ?_
        refine AllReadyH.cons (o := { dst := some 49, op := Go.Op.call { callee := Go.Callee.value (Go.Operand.func 94), args := #[Go.Operand.tmp 48], argTypes := #[207] }, type := 31, pos := "engine.go:168", after := #[{ on := 11, ground := Go.Ground.data }, { on := 10, ground := Go.Ground.chain }], guard := none }) rfl (fun K hK => ?_) AllReadyH.nil
        go_simp
        (refine (pjoin_any _ 0 4 4 (p4 EN 8 1 (len + 1)) (p4 EF (numB t 8) (numB S 1) (lenF len f)) _ (by decide) (fun i _ => by have h1 := HLB.out; have h2 := HL1.out; unfold p4; split <;> (try split) <;> (try split) <;> omega) HP.out).mono ?_; rintro e w5 ⟨v5, rfl, hG5, hb5⟩; rw [HLL.out] at hG5; have HE5 := Lib.hid (EB.mk hG5 HLP.out HEQ.out HLK.out HX4.out hb5 HO4.out); have T6 := Blk.below HT5.out hb5 (Blk.lt HT5.out); have u1 : w5.cell? ⟨wr.heap.size, 1, none⟩ = some (.slice od len cap) := Blk.cell T6 1; have u2 : w5.cell? ⟨wr.heap.size, 2, none⟩ = some (.int .u64 (t : Int)) := Blk.cell T6 2; have u3 : w5.cell? ⟨wr.heap.size, 3, none⟩ = some (.int .i64 (S : Int)) := Blk.cell T6 3; clear hG5 hb5 T6 s1 s2 s3; skip)
        (try go_wp2_with fail)
        refine hK.out _ _ ?_ (fun hHeld => ?_)
        · (try dsimp only)
          go_keep
        clear hK K
        (try simp only [Act.put, List.setIfInBounds_toArray, List.set_cons_zero, List.set_cons_succ])
        refine wpAnyH_take (i := 13) (oi := { dst := some 5, op := Go.Op.assign (Go.Operand.tmp 49), type := 31, pos := "engine.go:168", after := #[{ on := 12, ground := Go.Ground.data }, { on := 12, ground := Go.Ground.chain }, { on := 0, ground := Go.Ground.phase }, { on := 1, ground := Go.Ground.phase }, { on := 2, ground := Go.Ground.phase }, { on := 3, ground := Go.Ground.phase }, { on := 4, ground := Go.Ground.phase }, { on := 5, ground := Go.Ground.phase }, { on := 6, ground := Go.Ground.phase }, { on := 7, ground := Go.Ground.phase }, { on := 8, ground := Go.Ground.phase }, { on := 9, ground := Go.Ground.phase }, { on := 10, ground := Go.Ground.phase }, { on := 11, ground := Go.Ground.phase }, { on := 12, ground := Go.Ground.phase }], guard := none }) (v := ?_) rfl (by kernel_rfl) (by kernel_rfl) (by kernel_rfl) (fun _ _ _ h => h) (Or.inl ⟨by rfl, ?_⟩) (by assumption) ?_
        rotate_left
        · intro w hSw
          (try dsimp only at hSw)
          go_simp
          (try with_reducible rfl)
        (try simp only [Act.put, List.setIfInBounds_toArray, List.set_cons_zero, List.set_cons_succ])
        refine wpAnyH_done (by kernel_rfl) ?_ _
        clear u1 u2 u3
        go_wp2_with fail
        go_roundw
        case rel => exact ⟨k + 1, by omega, by go_num, HE5.out⟩
        case measure => simp [intOf]; omega
      · obtain rfl : k = n := by omega
        have HE := Lib.hid hE
        clear hE hlt y0_0 y0_1 y0_2
        go_wp2_with fail
        go_ret2
        exact ⟨_, rfl, HE.out⟩
end Go.Proofs.YtkaddilgegimjaaDoor
