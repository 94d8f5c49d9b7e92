/- Contract of nonce.Bytes: twelve bytes in new memory. []byte of a constant, wherever its row lies: the mark; where several orders meet. Keys out of keys, made ready; a root key sealed and opened. -/
import Derived.WalkSpells
import Derived.WalkLawsBesides
import Derived.Outline
import Derived.Laws.BitsLemmas
import Derived.Laws.BitsAllLaws
import Derived.Lib.UnsafeStr
import Derived.Lib.SlBytesConst
import Derived.ArgAppend
import Derived.Test.YtncfocjmdecapaaGreatDoorZB0
import Derived.Test.YtncfocjmdecapaaGreatDoorZS1
import Derived.Test.YtncfocjmdecapaaGreatDoorZS2
import Derived.Test.YtncfocjmdecapaaGreatDoorZSh4
import Derived.Test.YtncfocjmdecapaaGreatDoorZA0
import Derived.Test.YtncfocjmdecapaaGreatDoorZS5
import Derived.Test.YtncfocjmdecapaaGreatDoorZS8
import Derived.Test.YtncfocjmdecapaaGreatDoorZHm2
import Derived.Test.YtncfocjmdecapaaGreatDoorZAs
import Derived.Test.YtncfocjmdecapaaGreatDoorZR0
import Derived.Test.YtncfocjmdecapaaGreatDoorZK0
import Derived.Test.YtncfocjmdecapaaGreatDoorZK4
import Derived.Test.YtncfocjmdecapaaGreatDoorZKr5
import Derived.Test.YtncfocjmdecapaaGreatDoorZF1
import Derived.Test.YtncfocjmdecapaaGreatDoorZF2
import Derived.Test.YtncfocjmdecapaaGreatDoorZB16
import Derived.Test.YtncfocjmdecapaaGreatDoorZAe4
import Derived.Test.YtncfocjmdecapaaGreatDoorZAe5
import Derived.Test.YtncfocjmdecapaaGreatDoorZC0
import Derived.Test.YtncfocjmdecapaaGreatDoorZC2
import Derived.Test.YtncfocjmdecapaaGreatDoorZGc5
import Derived.Test.YtncfocjmdecapaaGreatDoorZC6
namespace Go.Proofs.YtncfocjmdecapaaGreatDoor
set_option linter.unusedVariables false
set_option linter.unusedSimpArgs false
open Go.RowKit
theorem nb_info : (Tryz.prog.info? 5).map (fun i => (i.zero, i.size, i.bytes)) = some (some (.int .u8 0), 1, 1) := by kernel_rfl

theorem one_news (w : World) (x : Value) (t : TypeId) : ∀ j u, [x][j]? = some u → (w.alloc (.cells #[x] t)).cell? ((⟨w.heap.size, 0, none⟩ : Addr).add j) = some u := by
  intro j u h
  match j, h with
  | 0, h => simp at h; subst h; simp [Addr.add]
theorem one_cell (z : Int) : ∀ u ∈ [Value.int .u8 z], u.oneCell' = true := by
  intro u h; simp at h; subst h; rfl

theorem own_block {w : World} {base : Nat} {e : TypeId} {size : Nat} {v : Value} {n : Nat} {xs : List Value} (h : w.ownsRow base e size v n xs) : ∀ k, v.ownBlock = some k → base ≤ k := by
  intro k hk
  rcases h.2 with ⟨rfl, _⟩ | ⟨g, cap, cur, rfl, hb, _⟩
  · simp [Value.ownBlock] at hk
  · simp [Value.ownBlock] at hk; omega

/-- A term and a number as twelve bytes. -/
def nbL (t n : Int) : List Value := [.int .u8 (t / 16777216), .int .u8 (t / 65536 % 256), .int .u8 (t / 256 % 256), .int .u8 (t % 256), .int .u8 (n / 72057594037927936), .int .u8 (n / 281474976710656 % 256), .int .u8 (n / 1099511627776 % 256), .int .u8 (n / 4294967296 % 256), .int .u8 (n / 16777216 % 256), .int .u8 (n / 65536 % 256), .int .u8 (n / 256 % 256), .int .u8 (n % 256)]
/-- What is answered. -/
def NB (t n : Int) (w : World) (e : Ending) (w' : World) : Prop := ∃ v, e = .returned v ∧ w'.ownsRow w.heap.size 5 1 v 12 (nbL t n) ∧ Below w.heap.size w w'

set_option maxRecDepth 100000 in
set_option maxHeartbeats 4000000 in
theorem nb_any (t n : Int) (w : World) (ht : 0 ≤ t ∧ t ≤ 4294967295) (hn : 0 ≤ n ∧ n ≤ 18446744073709551615) :
    Calls Tryz.prog 20 #[.int .u32 t, .int .u64 n] w (NB t n w) := by
  obtain ⟨i0, hi, hz0, hz1, hz2⟩ := info_parts nb_info
  obtain ⟨t0, t1⟩ := ht
  obtain ⟨n0, n1⟩ := hn
  go_enter Tryz.func20, Tryz.ntmps20
  go_wp2_with (at_make; refine wpList_make_own _ rfl _ _ 24 rfl w.heap.size 5 i0 (.int .u8 0) 1 Tryz.underlying24 hi hz0 hz1 .i64 .i64 12 12 rfl rfl rfl ?c1 ?c2 (Nat.le_refl _) ?_)
  case c1 => omega
  case c2 => unfold maxLen; omega
  intro w0 hown0 hg0
  have hs0 := hg0.size
  have hbel0 := (Below.refl w.heap.size w).grown hg0 (Nat.le_refl _) (fun _ h => by cases h)
  go_wp2_with fail
  refine wp_loop_rounds 5 ?_
  rw [rounds_succ]
  go_wp2_with (at_builtin; refine wpList_append_own _ rfl (.tmp 13) (.tmp 18) 24 rfl w.heap.size 5 i0 (.int .u8 0) 1 1 Tryz.underlying24 hi hz0 hz1 hz2 rfl (by decide) _ 0 _ rfl (hown0.alloc _) ⟨w0.heap.size, 0, none⟩ 1 1 [.int .u8 (t / 16777216)] rfl rfl ?d0a ?d0b ?d0c ?d0d ?d0e ?_)
  case d0a => exact one_news _ _ _
  case d0b => exact one_cell _
  case d0c => unfold maxLen; omega
  case d0d => omega
  case d0e => simp; omega
  intro v1 w1 hown1 hg1 _
  have hs1 := hg1.size
  simp at hs1
  have hbel1 := (hbel0.alloc (by omega) (.cells #[.int .u8 (t / 16777216)] 5)).grown hg1 (by simp; omega) (own_block hown0)
  go_wp2_with fail
  rw [rounds_succ]
  go_wp2_with (at_builtin; refine wpList_append_own _ rfl (.tmp 13) (.tmp 18) 24 rfl w.heap.size 5 i0 (.int .u8 0) 1 1 Tryz.underlying24 hi hz0 hz1 hz2 rfl (by decide) _ 1 _ rfl (hown1.alloc _) ⟨w1.heap.size, 0, none⟩ 1 1 [.int .u8 (t / 65536 % 256)] rfl rfl ?d1a ?d1b ?d1c ?d1d ?d1e ?_)
  case d1a => exact one_news _ _ _
  case d1b => exact one_cell _
  case d1c => unfold maxLen; omega
  case d1d => omega
  case d1e => simp; omega
  intro v2 w2 hown2 hg2 _
  have hs2 := hg2.size
  simp at hs2
  have hbel2 := (hbel1.alloc (by omega) (.cells #[.int .u8 (t / 65536 % 256)] 5)).grown hg2 (by simp; omega) (own_block hown1)
  go_wp2_with fail
  rw [rounds_succ]
  go_wp2_with (at_builtin; refine wpList_append_own _ rfl (.tmp 13) (.tmp 18) 24 rfl w.heap.size 5 i0 (.int .u8 0) 1 1 Tryz.underlying24 hi hz0 hz1 hz2 rfl (by decide) _ 2 _ rfl (hown2.alloc _) ⟨w2.heap.size, 0, none⟩ 1 1 [.int .u8 (t / 256 % 256)] rfl rfl ?d2a ?d2b ?d2c ?d2d ?d2e ?_)
  case d2a => exact one_news _ _ _
  case d2b => exact one_cell _
  case d2c => unfold maxLen; omega
  case d2d => omega
  case d2e => simp; omega
  intro v3 w3 hown3 hg3 _
  have hs3 := hg3.size
  simp at hs3
  have hbel3 := (hbel2.alloc (by omega) (.cells #[.int .u8 (t / 256 % 256)] 5)).grown hg3 (by simp; omega) (own_block hown2)
  go_wp2_with fail
  rw [rounds_succ]
  go_wp2_with (at_builtin; refine wpList_append_own _ rfl (.tmp 13) (.tmp 18) 24 rfl w.heap.size 5 i0 (.int .u8 0) 1 1 Tryz.underlying24 hi hz0 hz1 hz2 rfl (by decide) _ 3 _ rfl (hown3.alloc _) ⟨w3.heap.size, 0, none⟩ 1 1 [.int .u8 (t % 256)] rfl rfl ?d3a ?d3b ?d3c ?d3d ?d3e ?_)
  case d3a => exact one_news _ _ _
  case d3b => exact one_cell _
  case d3c => unfold maxLen; omega
  case d3d => omega
  case d3e => simp; omega
  intro v4 w4 hown4 hg4 _
  have hs4 := hg4.size
  simp at hs4
  have hbel4 := (hbel3.alloc (by omega) (.cells #[.int .u8 (t % 256)] 5)).grown hg4 (by simp; omega) (own_block hown3)
  go_wp2_with fail
  rw [rounds_succ]
  go_wp2_with fail
  refine wp_loop_rounds 9 ?_
  rw [rounds_succ]
  go_wp2_with (at_builtin; refine wpList_append_own _ rfl (.tmp 24) (.tmp 29) 24 rfl w.heap.size 5 i0 (.int .u8 0) 1 1 Tryz.underlying24 hi hz0 hz1 hz2 rfl (by decide) _ 4 _ rfl (hown4.alloc _) ⟨w4.heap.size, 0, none⟩ 1 1 [.int .u8 (n / 72057594037927936)] rfl rfl ?d4a ?d4b ?d4c ?d4d ?d4e ?_)
  case d4a => exact one_news _ _ _
  case d4b => exact one_cell _
  case d4c => unfold maxLen; omega
  case d4d => omega
  case d4e => simp; omega
  intro v5 w5 hown5 hg5 _
  have hs5 := hg5.size
  simp at hs5
  have hbel5 := (hbel4.alloc (by omega) (.cells #[.int .u8 (n / 72057594037927936)] 5)).grown hg5 (by simp; omega) (own_block hown4)
  go_wp2_with fail
  rw [rounds_succ]
  go_wp2_with (at_builtin; refine wpList_append_own _ rfl (.tmp 24) (.tmp 29) 24 rfl w.heap.size 5 i0 (.int .u8 0) 1 1 Tryz.underlying24 hi hz0 hz1 hz2 rfl (by decide) _ 5 _ rfl (hown5.alloc _) ⟨w5.heap.size, 0, none⟩ 1 1 [.int .u8 (n / 281474976710656 % 256)] rfl rfl ?d5a ?d5b ?d5c ?d5d ?d5e ?_)
  case d5a => exact one_news _ _ _
  case d5b => exact one_cell _
  case d5c => unfold maxLen; omega
  case d5d => omega
  case d5e => simp; omega
  intro v6 w6 hown6 hg6 _
  have hs6 := hg6.size
  simp at hs6
  have hbel6 := (hbel5.alloc (by omega) (.cells #[.int .u8 (n / 281474976710656 % 256)] 5)).grown hg6 (by simp; omega) (own_block hown5)
  go_wp2_with fail
  rw [rounds_succ]
  go_wp2_with (at_builtin; refine wpList_append_own _ rfl (.tmp 24) (.tmp 29) 24 rfl w.heap.size 5 i0 (.int .u8 0) 1 1 Tryz.underlying24 hi hz0 hz1 hz2 rfl (by decide) _ 6 _ rfl (hown6.alloc _) ⟨w6.heap.size, 0, none⟩ 1 1 [.int .u8 (n / 1099511627776 % 256)] rfl rfl ?d6a ?d6b ?d6c ?d6d ?d6e ?_)
  case d6a => exact one_news _ _ _
  case d6b => exact one_cell _
  case d6c => unfold maxLen; omega
  case d6d => omega
  case d6e => simp; omega
  intro v7 w7 hown7 hg7 _
  have hs7 := hg7.size
  simp at hs7
  have hbel7 := (hbel6.alloc (by omega) (.cells #[.int .u8 (n / 1099511627776 % 256)] 5)).grown hg7 (by simp; omega) (own_block hown6)
  go_wp2_with fail
  rw [rounds_succ]
  go_wp2_with (at_builtin; refine wpList_append_own _ rfl (.tmp 24) (.tmp 29) 24 rfl w.heap.size 5 i0 (.int .u8 0) 1 1 Tryz.underlying24 hi hz0 hz1 hz2 rfl (by decide) _ 7 _ rfl (hown7.alloc _) ⟨w7.heap.size, 0, none⟩ 1 1 [.int .u8 (n / 4294967296 % 256)] rfl rfl ?d7a ?d7b ?d7c ?d7d ?d7e ?_)
  case d7a => exact one_news _ _ _
  case d7b => exact one_cell _
  case d7c => unfold maxLen; omega
  case d7d => omega
  case d7e => simp; omega
  intro v8 w8 hown8 hg8 _
  have hs8 := hg8.size
  simp at hs8
  have hbel8 := (hbel7.alloc (by omega) (.cells #[.int .u8 (n / 4294967296 % 256)] 5)).grown hg8 (by simp; omega) (own_block hown7)
  go_wp2_with fail
  rw [rounds_succ]
  go_wp2_with (at_builtin; refine wpList_append_own _ rfl (.tmp 24) (.tmp 29) 24 rfl w.heap.size 5 i0 (.int .u8 0) 1 1 Tryz.underlying24 hi hz0 hz1 hz2 rfl (by decide) _ 8 _ rfl (hown8.alloc _) ⟨w8.heap.size, 0, none⟩ 1 1 [.int .u8 (n / 16777216 % 256)] rfl rfl ?d8a ?d8b ?d8c ?d8d ?d8e ?_)
  case d8a => exact one_news _ _ _
  case d8b => exact one_cell _
  case d8c => unfold maxLen; omega
  case d8d => omega
  case d8e => simp; omega
  intro v9 w9 hown9 hg9 _
  have hs9 := hg9.size
  simp at hs9
  have hbel9 := (hbel8.alloc (by omega) (.cells #[.int .u8 (n / 16777216 % 256)] 5)).grown hg9 (by simp; omega) (own_block hown8)
  go_wp2_with fail
  rw [rounds_succ]
  go_wp2_with (at_builtin; refine wpList_append_own _ rfl (.tmp 24) (.tmp 29) 24 rfl w.heap.size 5 i0 (.int .u8 0) 1 1 Tryz.underlying24 hi hz0 hz1 hz2 rfl (by decide) _ 9 _ rfl (hown9.alloc _) ⟨w9.heap.size, 0, none⟩ 1 1 [.int .u8 (n / 65536 % 256)] rfl rfl ?d9a ?d9b ?d9c ?d9d ?d9e ?_)
  case d9a => exact one_news _ _ _
  case d9b => exact one_cell _
  case d9c => unfold maxLen; omega
  case d9d => omega
  case d9e => simp; omega
  intro v10 w10 hown10 hg10 _
  have hs10 := hg10.size
  simp at hs10
  have hbel10 := (hbel9.alloc (by omega) (.cells #[.int .u8 (n / 65536 % 256)] 5)).grown hg10 (by simp; omega) (own_block hown9)
  go_wp2_with fail
  rw [rounds_succ]
  go_wp2_with (at_builtin; refine wpList_append_own _ rfl (.tmp 24) (.tmp 29) 24 rfl w.heap.size 5 i0 (.int .u8 0) 1 1 Tryz.underlying24 hi hz0 hz1 hz2 rfl (by decide) _ 10 _ rfl (hown10.alloc _) ⟨w10.heap.size, 0, none⟩ 1 1 [.int .u8 (n / 256 % 256)] rfl rfl ?d10a ?d10b ?d10c ?d10d ?d10e ?_)
  case d10a => exact one_news _ _ _
  case d10b => exact one_cell _
  case d10c => unfold maxLen; omega
  case d10d => omega
  case d10e => simp; omega
  intro v11 w11 hown11 hg11 _
  have hs11 := hg11.size
  simp at hs11
  have hbel11 := (hbel10.alloc (by omega) (.cells #[.int .u8 (n / 256 % 256)] 5)).grown hg11 (by simp; omega) (own_block hown10)
  go_wp2_with fail
  rw [rounds_succ]
  go_wp2_with (at_builtin; refine wpList_append_own _ rfl (.tmp 24) (.tmp 29) 24 rfl w.heap.size 5 i0 (.int .u8 0) 1 1 Tryz.underlying24 hi hz0 hz1 hz2 rfl (by decide) _ 11 _ rfl (hown11.alloc _) ⟨w11.heap.size, 0, none⟩ 1 1 [.int .u8 (n % 256)] rfl rfl ?d11a ?d11b ?d11c ?d11d ?d11e ?_)
  case d11a => exact one_news _ _ _
  case d11b => exact one_cell _
  case d11c => unfold maxLen; omega
  case d11d => omega
  case d11e => simp; omega
  intro v12 w12 hown12 hg12 _
  have hs12 := hg12.size
  simp at hs12
  have hbel12 := (hbel11.alloc (by omega) (.cells #[.int .u8 (n % 256)] 5)).grown hg12 (by simp; omega) (own_block hown11)
  go_wp2_with fail
  rw [rounds_succ]
  go_wp2_with fail
  go_ret
  exact ⟨v12, rfl, hown12, hbel12⟩
/-- The same as a function. -/
def nbF (t n : Nat) (i : Nat) : Nat := [t / 16777216, t / 65536 % 256, t / 256 % 256, t % 256, n / 72057594037927936, n / 281474976710656 % 256, n / 1099511627776 % 256, n / 4294967296 % 256, n / 16777216 % 256, n / 65536 % 256, n / 256 % 256, n % 256].getD i 0
theorem nbL_row (t n : Nat) : nbL t n = rowC 12 (nbF t n) := rfl
theorem nbF_lt {t n : Nat} (ht : t < 4294967296) (hn : n < 18446744073709551616) : ∀ i, i < 12 → nbF t n i < 256 := fun i hi => by
  match i, hi with
  | 0, _ => show t / 16777216 < 256; omega
  | 1, _ => show t / 65536 % 256 < 256; omega
  | 2, _ => show t / 256 % 256 < 256; omega
  | 3, _ => show t % 256 < 256; omega
  | 4, _ => show n / 72057594037927936 < 256; omega
  | 5, _ => show n / 281474976710656 % 256 < 256; omega
  | 6, _ => show n / 1099511627776 % 256 < 256; omega
  | 7, _ => show n / 4294967296 % 256 < 256; omega
  | 8, _ => show n / 16777216 % 256 < 256; omega
  | 9, _ => show n / 65536 % 256 < 256; omega
  | 10, _ => show n / 256 % 256 < 256; omega
  | 11, _ => show n % 256 < 256; omega
theorem nb_grow {t n : Nat} (w : World) (ht : t < 4294967296) (hn : n < 18446744073709551616) :
    Calls Tryz.prog 20 #[.int .u32 t, .int .u64 n] w fun e w' => ∃ v, e = .returned v ∧ Grow w' w.heap.size v 12 (nbF t n) ∧ Below w.heap.size w w' :=
  (nb_any t n w (by omega) (by omega)).mono fun e w' ⟨v, he, hown, hb⟩ => ⟨v, he, by rw [nbL_row] at hown; exact hown, hb⟩
end Go.Proofs.YtncfocjmdecapaaGreatDoor
namespace Go.Proofs.YtncfocjmdecapaaGreatDoor
set_option linter.unusedVariables false
set_option linter.unusedSimpArgs false
open Go.RowKit
/-- n bytes' room in block g. -/
def Shp (w : World) (g n : Nat) : Prop := w.shape? g = some (5, n)
theorem Shp.lt {w : World} {g n : Nat} (h : Shp w g n) : g < w.heap.size := by
  rcases Nat.lt_or_ge g w.heap.size with h' | h'
  · exact h'
  · unfold Shp World.shape? at h; rw [Array.getElem?_eq_none h'] at h; cases h
theorem Shp.later {w w' : World} {g n : Nat} (h : Shp w g n) (hb : Below w.heap.size w w') : Shp w' g n := by
  unfold Shp World.shape?; rw [hb.block g h.lt]; exact h
theorem Shp.own {w w' : World} {g n b : Nat} (h : Shp w g n) (hO : Own b w w') (hn : g ≠ b) : Shp w' g n := by
  unfold Shp World.shape?; rw [hO.block g h.lt hn]; exact h
theorem Shp.blk {w : World} {g : Nat} {C : Array Value} (h : Blk w g C 5) : Shp w g C.size := by
  unfold Shp World.shape?; rw [show w.heap[g]? = _ from h]
theorem heap_freeze (w : World) (p : Addr) (n k : Nat) : (w.freeze p n).heap[k]? = if n = 0 then w.heap[k]? else if p.block = k then (w.heap[k]?).map (fun | .cells c elem (lo, hi) => .cells c elem (if lo == hi then (p.off, p.off + n) else (min lo p.off, max hi (p.off + n))) | o => o) else w.heap[k]? := by
  unfold World.freeze
  by_cases h : n = 0
  · rw [if_pos h, if_pos h]
  · rw [if_neg h, if_neg h]
    show (w.heap.modify p.block _)[k]? = _
    rw [Array.getElem?_modify]
    by_cases e : p.block = k
    · rw [if_pos e, if_pos e]
      cases w.heap[k]? with
      | none => rfl
      | some o => cases o <;> rfl
    · rw [if_neg e, if_neg e]
theorem cell_freeze (w : World) (p : Addr) (n : Nat) (a : Addr) : (w.freeze p n).cell? a = w.cell? a := by
  unfold World.cell?
  rw [heap_freeze]
  by_cases h : n = 0
  · rw [if_pos h]
  · rw [if_neg h]
    by_cases h2 : p.block = a.block
    · rw [if_pos h2]
      cases w.heap[a.block]? with
      | none => rfl
      | some o => cases o <;> rfl
    · rw [if_neg h2]
theorem Bytes.frz {w : World} {oa : Option Addr} {n : Nat} {f : Nat → Nat} (h : Bytes w oa n f) (p : Addr) (k : Nat) : Bytes (w.freeze p k) oa n f := fun i hi => by
  obtain ⟨h1, b, off, h2, h3⟩ := h i hi
  exact ⟨h1, b, off, h2, by rw [cell_freeze]; exact h3⟩
theorem Shp.frz {w : World} {g n : Nat} (h : Shp w g n) (p : Addr) (k : Nat) : Shp (w.freeze p k) g n := by
  unfold Shp World.shape? at *
  rw [heap_freeze]
  by_cases h0 : k = 0
  · rw [if_pos h0]; exact h
  · rw [if_neg h0]
    by_cases h2 : p.block = g
    · rw [if_pos h2]
      cases e : w.heap[g]? with
      | none => rw [e] at h; cases h
      | some o => rw [e] at h; cases o <;> first | exact h | cases h
    · rw [if_neg h2]; exact h
theorem Own.frz (w : World) (g k n : Nat) : Own g w (w.freeze ⟨g, k, none⟩ n) := by
  refine ⟨?_, ?_, ?_, ?_, fun j hj hn => ?_⟩
  · unfold World.freeze; split <;> rfl
  · unfold World.freeze; split <;> rfl
  · unfold World.freeze; split <;> rfl
  · unfold World.freeze; split <;> simp
  · rw [heap_freeze]
    by_cases h0 : n = 0
    · rw [if_pos h0]
    · rw [if_neg h0, if_neg (fun e => hn e.symm)]
theorem conv_shp (w : World) (g n c m : Nat) (h : Shp w g m) : (convert 24 24 (.slice (some ⟨g, 0, none⟩) n c)).run Tryz.prog w = .ok (.slice (some ⟨g, 0, none⟩) n c) (w.freeze ⟨g, m, none⟩ 1) := by
  have hsh : w.shape? g = some (5, m) := h
  simp [convert, run_underlying Tryz.underlying24, run_underlying Tryz.underlying5, markStringish, hsh]
theorem step_convB {ops : Array Oper} {o : Oper} {a : Act} {w : World} {K : Act → World → Prop} {Q : Exit → Act → World → Prop} {E : Prop} (hw : Region.wanted o (yielded ops a.tmps) = true) (x : Operand) (ho : o.op = .convert 24 24 x) (g n c m : Nat) (hx : a.eval x = .slice (some ⟨g, 0, none⟩) n c) (h : Shp w g m)
    (hk : K (a.put o.dst (.slice (some ⟨g, 0, none⟩) n c)) (w.freeze ⟨g, m, none⟩ 1)) : if Region.wanted o (yielded ops a.tmps) = true then Oper.wp Tryz.prog o a w K Q else E := by
  rw [if_pos hw]
  unfold Oper.wp execOp
  simp only [ho, hx, conv_shp w g n c m h, Sem.run_bind, Result.andThen_ok]
  exact hk
theorem wpList_convB {ops : Array Oper} {rest : List Oper} {o : Oper} {a : Act} {w : World} {Q : Exit → Act → World → Prop} (hgd : o.guard = none) (x : Operand) (ho : o.op = .convert 24 24 x) (g n c m : Nat) (hx : a.eval x = .slice (some ⟨g, 0, none⟩) n c) (h : Shp w g m)
    (hk : wpList Tryz.prog ops Q rest (a.put o.dst (.slice (some ⟨g, 0, none⟩) n c)) (w.freeze ⟨g, m, none⟩ 1)) : wpList Tryz.prog ops Q (o :: rest) a w := by
  refine wpList_plain hgd fun K hK => ?_
  unfold Oper.wp execOp
  simp only [ho, hx, conv_shp w g n c m h, Sem.run_bind, Result.andThen_ok]
  exact hK _ _ hk
end Go.Proofs.YtncfocjmdecapaaGreatDoor
namespace Go.Proofs.YtncfocjmdecapaaGreatDoor
set_option linter.unusedVariables false
set_option linter.unusedSimpArgs false
open Go.RowKit
/-- A key's round keys, out of another key. -/
def ekW (K : Nat → Nat) (s : ByteArray) (x : Nat) : Nat → Nat := exK (exF 32 K (s.size + 5) (kiF s x)) 60
set_option maxRecDepth 100000 in
set_option maxHeartbeats 1000000 in
theorem sealer_any (oa : Option Addr) (cn : Nat) (K : Nat → Nat) (s : ByteArray) (x : Nat) (w : World) (hb : Bytes w oa 32 K) (hnc : 32 ≤ cn) (hs1 : 1 ≤ s.size) (hs2 : s.size ≤ 32) (hx : x < 4294967296) (hg : GV w) :
    Calls Tryz.prog 18 #[.slice oa 32 cn, .string s, .int .u32 (x : Int)] w fun e w' => ∃ g kb bx, e = .returned (.tuple #[.pointer (some ⟨g, 0, none⟩), .nilIface]) ∧ GS w (ekW K s x) g kb bx w' := by
  have HC := Lib.hid (key_any oa cn K s x w hb hnc hs1 hs2 hx hg)
  clear hb hnc hs1 hs2 hx hg
  go_enter Tryz.func18, Tryz.ntmps18
  go_wp2_with fail
  refine HC.out.mono ?_
  rintro e w1 ⟨o, rfl, hB, hb1⟩
  have HB := Lib.hid hB
  have HB1 := Lib.hid hb1
  clear hB hb1 HC
  go_wp2_with fail
  refine (gnew_any _ o 32 w1 HB.out).mono ?_
  rintro e w2 ⟨g, kb, bx, rfl, hK, hb2, h1, h2, h3⟩
  have HR : Hid (GS w (ekW K s x) g kb bx w2) := Lib.hid ⟨hK, HB1.out.trans (hb2.mono HB1.out.size), Nat.le_trans HB1.out.size h1, Nat.le_trans HB1.out.size h2, Nat.le_trans HB1.out.size h3⟩
  clear hK hb2 h1 h2 h3
  go_wp2_with fail
  refine bodyPost_ret (v := .tuple #[.pointer (some ⟨g, 0, none⟩), .nilIface]) ?_ rfl ⟨g, kb, bx, rfl, HR.out⟩
  exact results_tmp2 (t := 6) (u := 7) Tryz.results18 _ _ _
/-- What is sealed beside a root key. -/
def beE : Nat → Nat := fun i => [99, 111, 114, 101, 47, 101, 110, 118, 101, 108, 111, 112, 101].getD i 0
def sE : ByteArray := ⟨#[101, 110, 118, 101, 108, 111, 112, 101]⟩
/-- A root key, sealed. -/
def ebF (K R : Nat → Nat) (x : Nat) : Nat → Nat := boxF (ekW K sE x) (nbF x 0) R 32 beE 13
theorem bs_be (w : World) : Blk (w.alloc (.cells #[.int .u8 99, .int .u8 111, .int .u8 114, .int .u8 101, .int .u8 47, .int .u8 101, .int .u8 110, .int .u8 118, .int .u8 101, .int .u8 108, .int .u8 111, .int .u8 112, .int .u8 101] 5)) w.heap.size (rowC 13 beE).toArray 5 := Blk.new w _ _
theorem be_bytes {w : World} {g n : Nat} {f : Nat → Nat} {T : TypeId} (h : Blk w g (rowC n f).toArray T) (hf : ∀ i, i < n → f i < 256) : Bytes w (some ⟨g, 0, none⟩) n f := fun k hk => ⟨hf k hk, g, 0, rfl, by
  rw [Nat.zero_add, Blk.cell h, List.getElem?_toArray]; exact rowC_get f hk⟩
theorem beE_lt : ∀ i, i < 13 → beE i < 256 := fun i hi => by
  have : ∀ k : Fin 13, beE k.1 < 256 := by decide
  exact this ⟨i, hi⟩
set_option maxRecDepth 100000 in
set_option maxHeartbeats 2000000 in
theorem eseal_any (oa ob : Option Addr) (cn cm x : Nat) (K R : Nat → Nat) (w : World) (hb : Bytes w oa 32 K) (hr : Bytes w ob 32 R) (hnc : 32 ≤ cn) (hmc : 32 ≤ cm) (hmm : cm ≤ maxLen) (hx : x < 4294967296) (hg : GV w) :
    Calls Tryz.prog 5 #[.slice oa 32 cn, .slice ob 32 cm, .int .u32 (x : Int)] w fun e w' => ∃ v B, e = .returned (.tuple #[v, .nilIface]) ∧ Grow w' B v 48 (ebF K R x) ∧ w.heap.size ≤ B ∧ Below w.heap.size w w' := by
  have HC := Lib.hid (sealer_any oa cn K sE x w hb hnc (by decide) (by decide) hx hg)
  have HR := Lib.hid hr
  have HM := Lib.hid (And.intro hmc (And.intro hmm hx))
  have HBL : Hid (∀ y, ob = some y → y.block < w.heap.size) := Lib.hid fun y hy => hr.lt y hy (by decide)
  clear hb hr hnc hmc hmm hx hg
  go_enter Tryz.func5, Tryz.ntmps5
  go_wp2_with fail
  refine HC.out.mono ?_
  rintro e w1 ⟨g, kb, bx, rfl, hGS⟩
  have HGS := Lib.hid hGS
  clear hGS HC
  go_wp2_with fail
  refine (nb_grow w1 HM.out.2.2 (by decide : (0 : Nat) < 18446744073709551616)).mono ?_
  rintro e w2 ⟨vn, rfl, hN, hb2⟩
  obtain ⟨gn, cp, rfl, hgn, hNB, hcp, hno⟩ := hN.someN (by decide) (fun i hi => nbF_lt HM.out.2.2 (by decide) i hi)
  have HN := Lib.hid (And.intro hNB hb2)
  clear hN hb2 hNB hcp hno
  obtain ⟨w3, hw3⟩ : ∃ q, w2.alloc (.cells #[.int .u8 99, .int .u8 111, .int .u8 114, .int .u8 101, .int .u8 47, .int .u8 101, .int .u8 110, .int .u8 118, .int .u8 101, .int .u8 108, .int .u8 111, .int .u8 112, .int .u8 101] 5) = q := ⟨_, rfl⟩
  obtain ⟨g3, hg3⟩ : ∃ q, w2.heap.size = q := ⟨_, rfl⟩
  obtain ⟨w4, hw4⟩ : ∃ q, w3.freeze ⟨g3, 13, none⟩ 1 = q := ⟨_, rfl⟩
  have hB3 : Blk w3 g3 (rowC 13 beE).toArray 5 := by rw [← hw3, ← hg3]; exact bs_be w2
  have HSH : Hid (Shp w3 g3 13) := Lib.hid (Shp.blk hB3)
  have HA : Hid (Bytes w4 (some ⟨g3, 0, none⟩) 13 beE) := Lib.hid (by rw [← hw4]; exact (be_bytes hB3 beE_lt).frz _ _)
  have hb23 : Below w2.heap.size w2 w3 := by rw [← hw3]; exact (Below.refl _ _).alloc (Nat.le_refl _) _
  have hb24 : Below w2.heap.size w2 w4 := hb23.trans (by rw [← hw4]; exact (Own.frz _ _ _ _).below (Nat.le_of_eq hg3) hb23.size)
  have HNN : Hid (Bytes w4 (some ⟨gn, 0, none⟩) 12 (nbF x 0)) := Lib.hid (HN.out.1.later hb24)
  have HK4 : Hid (KG w4 g kb bx (ekW K sE x)) := Lib.hid ((HGS.out.1.below HN.out.2).below hb24)
  have hs1 := HGS.out.2.1.size
  have hs2 := HN.out.2.size
  have hlt := HGS.out.1.lt
  have HB4 : Hid (Below w.heap.size w w4) := Lib.hid ((HGS.out.2.1.trans (HN.out.2.mono hs1)).trans (hb24.mono (Nat.le_trans hs1 hs2)))
  have HNE : Hid (gn ≠ bx ∧ g3 ≠ bx ∧ w.heap.size ≤ bx) := Lib.hid ⟨by omega, by omega, HGS.out.2.2.1⟩
  clear hB3 hb23 hb24 hs1 hs2 hlt hgn
  go_wp2_with (first | (refine wpList_convB rfl (.tmp 32) rfl g3 13 13 13 rfl HSH.out ?_; rw [hw4]))
  refine (seal_any g kb bx (ekW K sE x) (nbF x 0) R beE 32 13 (some ⟨gn, 0, none⟩) ob (some ⟨g3, 0, none⟩) cp cm 13 w4 HK4.out HNN.out (fun y hy => by cases hy; exact HNE.out.1) (HR.out.later HB4.out) (fun y hy _ => by have h1 := HBL.out y hy; have h2 := HNE.out.2.2; omega) HA.out (fun y hy _ => by cases hy; exact HNE.out.2.1) HM.out.1 HM.out.2.1 (Nat.le_refl _) (by unfold maxLen; omega) (by decide) (by decide)).mono ?_
  rintro e w5 ⟨v, rfl, hG, _, hO⟩
  have HG5 := Lib.hid hG
  have HB5 : Hid (Below w.heap.size w w5) := Lib.hid (HB4.out.trans (hO.below HNE.out.2.2 HB4.out.size))
  clear hG hO
  go_wp2_with fail
  refine bodyPost_ret (v := .tuple #[v, .nilIface]) ?_ rfl ⟨v, _, rfl, HG5.out, Nat.le_trans HB4.out.size (Nat.le_add_right _ _), HB5.out⟩
  exact results_tmp2 (t := 6) (u := 7) Tryz.results5 _ _ _
/-- A box that was opened, or not. -/
def EOpen (K Q : Nat → Nat) (x : Nat) (w : World) (e : Ending) (w' : World) : Prop := Below w.heap.size w w' ∧
  ((eqF (tgF (ekW K sE x) (nbF x 0) beE 13 Q 32) (fun i => Q (32 + i)) = true ∧ ∃ v B, e = .returned (.tuple #[v, .nilIface]) ∧ Grow w' B v 32 (cphF (ekW K sE x) (nbF x 0) Q) ∧ w.heap.size ≤ B) ∨
   (eqF (tgF (ekW K sE x) (nbF x 0) beE 13 Q 32) (fun i => Q (32 + i)) = false ∧ e = .returned (.tuple #[.slice none 0 0, .iface 53 (.int .i64 13)])))
set_option maxRecDepth 100000 in
set_option maxHeartbeats 2000000 in
theorem eopen_any (oa : Option Addr) (bo oo cn cm x : Nat) (K Q : Nat → Nat) (w : World) (hb : Bytes w oa 32 K) (hr : Bytes w (some ⟨bo, oo, none⟩) 48 Q) (hnc : 32 ≤ cn) (hmc : 48 ≤ cm) (hmm : cm ≤ maxLen) (hx : x < 4294967296) (hg : GV w) :
    Calls Tryz.prog 6 #[.slice oa 32 cn, .slice (some ⟨bo, oo, none⟩) 48 cm, .int .u32 (x : Int)] w (EOpen K Q x w) := by
  have HC := Lib.hid (sealer_any oa cn K sE x w hb hnc (by decide) (by decide) hx hg)
  have HR := Lib.hid hr
  have HM := Lib.hid (And.intro hmc (And.intro hmm hx))
  have HBL : Hid (bo < w.heap.size) := Lib.hid (hr.lt _ rfl (by decide))
  clear hb hr hnc hmc hmm hx hg
  go_enter Tryz.func6, Tryz.ntmps6
  go_wp2_with fail
  refine HC.out.mono ?_
  rintro e w1 ⟨g, kb, bx, rfl, hGS⟩
  have HGS := Lib.hid hGS
  clear hGS HC
  go_wp2_with fail
  refine (nb_grow w1 HM.out.2.2 (by decide : (0 : Nat) < 18446744073709551616)).mono ?_
  rintro e w2 ⟨vn, rfl, hN, hb2⟩
  obtain ⟨gn, cp, rfl, hgn, hNB, hcp, hno⟩ := hN.someN (by decide) (fun i hi => nbF_lt HM.out.2.2 (by decide) i hi)
  have HN := Lib.hid (And.intro hNB hb2)
  clear hN hb2 hNB hcp hno
  obtain ⟨w3, hw3⟩ : ∃ q, w2.alloc (.cells #[.int .u8 99, .int .u8 111, .int .u8 114, .int .u8 101, .int .u8 47, .int .u8 101, .int .u8 110, .int .u8 118, .int .u8 101, .int .u8 108, .int .u8 111, .int .u8 112, .int .u8 101] 5) = q := ⟨_, rfl⟩
  obtain ⟨g3, hg3⟩ : ∃ q, w2.heap.size = q := ⟨_, rfl⟩
  obtain ⟨w4, hw4⟩ : ∃ q, w3.freeze ⟨g3, 13, none⟩ 1 = q := ⟨_, rfl⟩
  have hB3 : Blk w3 g3 (rowC 13 beE).toArray 5 := by rw [← hw3, ← hg3]; exact bs_be w2
  have HSH : Hid (Shp w3 g3 13) := Lib.hid (Shp.blk hB3)
  have HA : Hid (Bytes w4 (some ⟨g3, 0, none⟩) 13 beE) := Lib.hid (by rw [← hw4]; exact (be_bytes hB3 beE_lt).frz _ _)
  have hb23 : Below w2.heap.size w2 w3 := by rw [← hw3]; exact (Below.refl _ _).alloc (Nat.le_refl _) _
  have hb24 : Below w2.heap.size w2 w4 := hb23.trans (by rw [← hw4]; exact (Own.frz _ _ _ _).below (Nat.le_of_eq hg3) hb23.size)
  have HNN : Hid (Bytes w4 (some ⟨gn, 0, none⟩) 12 (nbF x 0)) := Lib.hid (HN.out.1.later hb24)
  have HK4 : Hid (KG w4 g kb bx (ekW K sE x)) := Lib.hid ((HGS.out.1.below HN.out.2).below hb24)
  have hs1 := HGS.out.2.1.size
  have hs2 := HN.out.2.size
  have hlt := HGS.out.1.lt
  have HB4 : Hid (Below w.heap.size w w4) := Lib.hid ((HGS.out.2.1.trans (HN.out.2.mono hs1)).trans (hb24.mono (Nat.le_trans hs1 hs2)))
  have HNE : Hid (gn ≠ bx ∧ g3 ≠ bx ∧ w.heap.size ≤ bx) := Lib.hid ⟨by omega, by omega, HGS.out.2.2.1⟩
  clear hB3 hb23 hb24 hs1 hs2 hlt hgn
  go_wp2_with (first | (refine wpList_convB rfl (.tmp 33) rfl g3 13 13 13 rfl HSH.out ?_; rw [hw4]))
  refine (open_any g kb bx (ekW K sE x) (nbF x 0) Q beE 32 13 bo oo (some ⟨gn, 0, none⟩) (some ⟨g3, 0, none⟩) cp cm 13 w4 HK4.out HNN.out (fun y hy => by cases hy; exact HNE.out.1) (HR.out.later HB4.out) (by have h1 := HBL.out; have h2 := HNE.out.2.2; omega) HA.out HM.out.1 HM.out.2.1 (Nat.le_refl _) (by unfold maxLen; omega) (by decide) (by decide)).mono ?_
  rintro e w5 ⟨_, hO, ⟨hq, v, B, rfl, hG, hB⟩ | ⟨hq, rfl⟩⟩
  · have HG5 := Lib.hid hG
    have HB5 : Hid (Below w.heap.size w w5) := Lib.hid (HB4.out.trans (hO.below HNE.out.2.2 HB4.out.size))
    have HQ := Lib.hid hq
    have HBB := Lib.hid (Nat.le_trans HB4.out.size hB)
    clear hG hO hq hB
    go_wp2_with fail
    refine bodyPost_ret (v := .tuple #[v, .nilIface]) ?_ rfl ⟨HB5.out, .inl ⟨HQ.out, v, B, rfl, HG5.out, HBB.out⟩⟩
    exact results_tmp2 (t := 6) (u := 7) Tryz.results6 _ _ _
  · have HB5 : Hid (Below w.heap.size w w5) := Lib.hid (HB4.out.trans (hO.below HNE.out.2.2 HB4.out.size))
    have HQ := Lib.hid hq
    clear hO hq
    go_wp2_with fail
    refine bodyPost_ret (v := .tuple #[.slice none 0 0, .iface 53 (.int .i64 13)]) ?_ rfl ⟨HB5.out, .inr ⟨HQ.out, rfl⟩⟩
    exact results_tmp2 (t := 6) (u := 7) Tryz.results6 _ _ _
end Go.Proofs.YtncfocjmdecapaaGreatDoor
