/- Contract of nonce.Bytes: twelve bytes in new memory. -/
import Derived.Test.YtkaddilgegimjaaDoorNonce
namespace Go.Proofs.YtkaddilgegimjaaDoor
set_option linter.unusedVariables false
set_option linter.unusedSimpArgs false
open Go.RowKit

theorem Tryd.info5 : (Tryd.prog.info? 5).map (fun i => (i.zero, i.size, i.bytes)) = some (some (.int .u8 0), 1, 1) := by kernel_rfl

theorem one_news (w : World) (x : Value) (t : TypeId) : ∀ j u, [x][j]? = some u → (w.alloc (.cells #[x] t)).cell? ((⟨w.heap.size, 0, none⟩ : Addr).add j) = some u := by
  intro j u h
  match j, h with
  | 0, h => simp at h; subst h; simp [Addr.add]
theorem one_cell (z : Int) : ∀ u ∈ [Value.int .u8 z], u.oneCell' = true := by
  intro u h; simp at h; subst h; rfl

theorem own_block {w : World} {base : Nat} {e : TypeId} {size : Nat} {v : Value} {n : Nat} {xs : List Value} (h : w.ownsRow base e size v n xs) : ∀ k, v.ownBlock = some k → base ≤ k := by
  intro k hk
  rcases h.2 with ⟨rfl, _⟩ | ⟨g, cap, cur, rfl, hb, _⟩
  · simp [Value.ownBlock] at hk
  · simp [Value.ownBlock] at hk; omega

/-- A term and a number as twelve bytes. -/
def nbL (t n : Int) : List Value := [.int .u8 (t / 16777216), .int .u8 (t / 65536 % 256), .int .u8 (t / 256 % 256), .int .u8 (t % 256), .int .u8 (n / 72057594037927936), .int .u8 (n / 281474976710656 % 256), .int .u8 (n / 1099511627776 % 256), .int .u8 (n / 4294967296 % 256), .int .u8 (n / 16777216 % 256), .int .u8 (n / 65536 % 256), .int .u8 (n / 256 % 256), .int .u8 (n % 256)]
/-- What is answered. -/
def NB (t n : Int) (w : World) (e : Ending) (w' : World) : Prop := ∃ v, e = .returned v ∧ w'.ownsRow w.heap.size 5 1 v 12 (nbL t n) ∧ Below w.heap.size w w'

set_option maxRecDepth 100000 in
set_option maxHeartbeats 4000000 in
theorem nb_any (t n : Int) (w : World) (ht : 0 ≤ t ∧ t ≤ 4294967295) (hn : 0 ≤ n ∧ n ≤ 18446744073709551615) :
    Calls Tryd.prog 20 #[.int .u32 t, .int .u64 n] w (NB t n w) := by
  obtain ⟨i0, hi, hz0, hz1, hz2⟩ := info_parts Tryd.info5
  obtain ⟨t0, t1⟩ := ht
  obtain ⟨n0, n1⟩ := hn
  go_enter Tryd.func20, Tryd.ntmps20
  go_wp2_with (at_make; refine wpList_make_own _ rfl _ _ 31 rfl w.heap.size 5 i0 (.int .u8 0) 1 Tryd.underlying31 hi hz0 hz1 .i64 .i64 12 12 rfl rfl rfl ?c1 ?c2 (Nat.le_refl _) ?_)
  case c1 => omega
  case c2 => unfold maxLen; omega
  intro w0 hown0 hg0
  have hs0 := hg0.size
  have hbel0 := (Below.refl w.heap.size w).grown hg0 (Nat.le_refl _) (fun _ h => by cases h)
  go_wp2_with fail
  refine wp_loop_rounds 5 ?_
  rw [rounds_succ]
  go_wp2_with (at_builtin; refine wpList_append_own _ rfl (.tmp 13) (.tmp 18) 31 rfl w.heap.size 5 i0 (.int .u8 0) 1 1 Tryd.underlying31 hi hz0 hz1 hz2 rfl (by decide) _ 0 _ rfl (hown0.alloc _) ⟨w0.heap.size, 0, none⟩ 1 1 [.int .u8 (t / 16777216)] rfl rfl ?d0a ?d0b ?d0c ?d0d ?d0e ?_)
  case d0a => exact one_news _ _ _
  case d0b => exact one_cell _
  case d0c => unfold maxLen; omega
  case d0d => omega
  case d0e => simp; omega
  intro v1 w1 hown1 hg1 _
  have hs1 := hg1.size
  simp at hs1
  have hbel1 := (hbel0.alloc (by omega) (.cells #[.int .u8 (t / 16777216)] 5)).grown hg1 (by simp; omega) (own_block hown0)
  go_wp2_with fail
  rw [rounds_succ]
  go_wp2_with (at_builtin; refine wpList_append_own _ rfl (.tmp 13) (.tmp 18) 31 rfl w.heap.size 5 i0 (.int .u8 0) 1 1 Tryd.underlying31 hi hz0 hz1 hz2 rfl (by decide) _ 1 _ rfl (hown1.alloc _) ⟨w1.heap.size, 0, none⟩ 1 1 [.int .u8 (t / 65536 % 256)] rfl rfl ?d1a ?d1b ?d1c ?d1d ?d1e ?_)
  case d1a => exact one_news _ _ _
  case d1b => exact one_cell _
  case d1c => unfold maxLen; omega
  case d1d => omega
  case d1e => simp; omega
  intro v2 w2 hown2 hg2 _
  have hs2 := hg2.size
  simp at hs2
  have hbel2 := (hbel1.alloc (by omega) (.cells #[.int .u8 (t / 65536 % 256)] 5)).grown hg2 (by simp; omega) (own_block hown1)
  go_wp2_with fail
  rw [rounds_succ]
  go_wp2_with (at_builtin; refine wpList_append_own _ rfl (.tmp 13) (.tmp 18) 31 rfl w.heap.size 5 i0 (.int .u8 0) 1 1 Tryd.underlying31 hi hz0 hz1 hz2 rfl (by decide) _ 2 _ rfl (hown2.alloc _) ⟨w2.heap.size, 0, none⟩ 1 1 [.int .u8 (t / 256 % 256)] rfl rfl ?d2a ?d2b ?d2c ?d2d ?d2e ?_)
  case d2a => exact one_news _ _ _
  case d2b => exact one_cell _
  case d2c => unfold maxLen; omega
  case d2d => omega
  case d2e => simp; omega
  intro v3 w3 hown3 hg3 _
  have hs3 := hg3.size
  simp at hs3
  have hbel3 := (hbel2.alloc (by omega) (.cells #[.int .u8 (t / 256 % 256)] 5)).grown hg3 (by simp; omega) (own_block hown2)
  go_wp2_with fail
  rw [rounds_succ]
  go_wp2_with (at_builtin; refine wpList_append_own _ rfl (.tmp 13) (.tmp 18) 31 rfl w.heap.size 5 i0 (.int .u8 0) 1 1 Tryd.underlying31 hi hz0 hz1 hz2 rfl (by decide) _ 3 _ rfl (hown3.alloc _) ⟨w3.heap.size, 0, none⟩ 1 1 [.int .u8 (t % 256)] rfl rfl ?d3a ?d3b ?d3c ?d3d ?d3e ?_)
  case d3a => exact one_news _ _ _
  case d3b => exact one_cell _
  case d3c => unfold maxLen; omega
  case d3d => omega
  case d3e => simp; omega
  intro v4 w4 hown4 hg4 _
  have hs4 := hg4.size
  simp at hs4
  have hbel4 := (hbel3.alloc (by omega) (.cells #[.int .u8 (t % 256)] 5)).grown hg4 (by simp; omega) (own_block hown3)
  go_wp2_with fail
  rw [rounds_succ]
  go_wp2_with fail
  refine wp_loop_rounds 9 ?_
  rw [rounds_succ]
  go_wp2_with (at_builtin; refine wpList_append_own _ rfl (.tmp 24) (.tmp 29) 31 rfl w.heap.size 5 i0 (.int .u8 0) 1 1 Tryd.underlying31 hi hz0 hz1 hz2 rfl (by decide) _ 4 _ rfl (hown4.alloc _) ⟨w4.heap.size, 0, none⟩ 1 1 [.int .u8 (n / 72057594037927936)] rfl rfl ?d4a ?d4b ?d4c ?d4d ?d4e ?_)
  case d4a => exact one_news _ _ _
  case d4b => exact one_cell _
  case d4c => unfold maxLen; omega
  case d4d => omega
  case d4e => simp; omega
  intro v5 w5 hown5 hg5 _
  have hs5 := hg5.size
  simp at hs5
  have hbel5 := (hbel4.alloc (by omega) (.cells #[.int .u8 (n / 72057594037927936)] 5)).grown hg5 (by simp; omega) (own_block hown4)
  go_wp2_with fail
  rw [rounds_succ]
  go_wp2_with (at_builtin; refine wpList_append_own _ rfl (.tmp 24) (.tmp 29) 31 rfl w.heap.size 5 i0 (.int .u8 0) 1 1 Tryd.underlying31 hi hz0 hz1 hz2 rfl (by decide) _ 5 _ rfl (hown5.alloc _) ⟨w5.heap.size, 0, none⟩ 1 1 [.int .u8 (n / 281474976710656 % 256)] rfl rfl ?d5a ?d5b ?d5c ?d5d ?d5e ?_)
  case d5a => exact one_news _ _ _
  case d5b => exact one_cell _
  case d5c => unfold maxLen; omega
  case d5d => omega
  case d5e => simp; omega
  intro v6 w6 hown6 hg6 _
  have hs6 := hg6.size
  simp at hs6
  have hbel6 := (hbel5.alloc (by omega) (.cells #[.int .u8 (n / 281474976710656 % 256)] 5)).grown hg6 (by simp; omega) (own_block hown5)
  go_wp2_with fail
  rw [rounds_succ]
  go_wp2_with (at_builtin; refine wpList_append_own _ rfl (.tmp 24) (.tmp 29) 31 rfl w.heap.size 5 i0 (.int .u8 0) 1 1 Tryd.underlying31 hi hz0 hz1 hz2 rfl (by decide) _ 6 _ rfl (hown6.alloc _) ⟨w6.heap.size, 0, none⟩ 1 1 [.int .u8 (n / 1099511627776 % 256)] rfl rfl ?d6a ?d6b ?d6c ?d6d ?d6e ?_)
  case d6a => exact one_news _ _ _
  case d6b => exact one_cell _
  case d6c => unfold maxLen; omega
  case d6d => omega
  case d6e => simp; omega
  intro v7 w7 hown7 hg7 _
  have hs7 := hg7.size
  simp at hs7
  have hbel7 := (hbel6.alloc (by omega) (.cells #[.int .u8 (n / 1099511627776 % 256)] 5)).grown hg7 (by simp; omega) (own_block hown6)
  go_wp2_with fail
  rw [rounds_succ]
  go_wp2_with (at_builtin; refine wpList_append_own _ rfl (.tmp 24) (.tmp 29) 31 rfl w.heap.size 5 i0 (.int .u8 0) 1 1 Tryd.underlying31 hi hz0 hz1 hz2 rfl (by decide) _ 7 _ rfl (hown7.alloc _) ⟨w7.heap.size, 0, none⟩ 1 1 [.int .u8 (n / 4294967296 % 256)] rfl rfl ?d7a ?d7b ?d7c ?d7d ?d7e ?_)
  case d7a => exact one_news _ _ _
  case d7b => exact one_cell _
  case d7c => unfold maxLen; omega
  case d7d => omega
  case d7e => simp; omega
  intro v8 w8 hown8 hg8 _
  have hs8 := hg8.size
  simp at hs8
  have hbel8 := (hbel7.alloc (by omega) (.cells #[.int .u8 (n / 4294967296 % 256)] 5)).grown hg8 (by simp; omega) (own_block hown7)
  go_wp2_with fail
  rw [rounds_succ]
  go_wp2_with (at_builtin; refine wpList_append_own _ rfl (.tmp 24) (.tmp 29) 31 rfl w.heap.size 5 i0 (.int .u8 0) 1 1 Tryd.underlying31 hi hz0 hz1 hz2 rfl (by decide) _ 8 _ rfl (hown8.alloc _) ⟨w8.heap.size, 0, none⟩ 1 1 [.int .u8 (n / 16777216 % 256)] rfl rfl ?d8a ?d8b ?d8c ?d8d ?d8e ?_)
  case d8a => exact one_news _ _ _
  case d8b => exact one_cell _
  case d8c => unfold maxLen; omega
  case d8d => omega
  case d8e => simp; omega
  intro v9 w9 hown9 hg9 _
  have hs9 := hg9.size
  simp at hs9
  have hbel9 := (hbel8.alloc (by omega) (.cells #[.int .u8 (n / 16777216 % 256)] 5)).grown hg9 (by simp; omega) (own_block hown8)
  go_wp2_with fail
  rw [rounds_succ]
  go_wp2_with (at_builtin; refine wpList_append_own _ rfl (.tmp 24) (.tmp 29) 31 rfl w.heap.size 5 i0 (.int .u8 0) 1 1 Tryd.underlying31 hi hz0 hz1 hz2 rfl (by decide) _ 9 _ rfl (hown9.alloc _) ⟨w9.heap.size, 0, none⟩ 1 1 [.int .u8 (n / 65536 % 256)] rfl rfl ?d9a ?d9b ?d9c ?d9d ?d9e ?_)
  case d9a => exact one_news _ _ _
  case d9b => exact one_cell _
  case d9c => unfold maxLen; omega
  case d9d => omega
  case d9e => simp; omega
  intro v10 w10 hown10 hg10 _
  have hs10 := hg10.size
  simp at hs10
  have hbel10 := (hbel9.alloc (by omega) (.cells #[.int .u8 (n / 65536 % 256)] 5)).grown hg10 (by simp; omega) (own_block hown9)
  go_wp2_with fail
  rw [rounds_succ]
  go_wp2_with (at_builtin; refine wpList_append_own _ rfl (.tmp 24) (.tmp 29) 31 rfl w.heap.size 5 i0 (.int .u8 0) 1 1 Tryd.underlying31 hi hz0 hz1 hz2 rfl (by decide) _ 10 _ rfl (hown10.alloc _) ⟨w10.heap.size, 0, none⟩ 1 1 [.int .u8 (n / 256 % 256)] rfl rfl ?d10a ?d10b ?d10c ?d10d ?d10e ?_)
  case d10a => exact one_news _ _ _
  case d10b => exact one_cell _
  case d10c => unfold maxLen; omega
  case d10d => omega
  case d10e => simp; omega
  intro v11 w11 hown11 hg11 _
  have hs11 := hg11.size
  simp at hs11
  have hbel11 := (hbel10.alloc (by omega) (.cells #[.int .u8 (n / 256 % 256)] 5)).grown hg11 (by simp; omega) (own_block hown10)
  go_wp2_with fail
  rw [rounds_succ]
  go_wp2_with (at_builtin; refine wpList_append_own _ rfl (.tmp 24) (.tmp 29) 31 rfl w.heap.size 5 i0 (.int .u8 0) 1 1 Tryd.underlying31 hi hz0 hz1 hz2 rfl (by decide) _ 11 _ rfl (hown11.alloc _) ⟨w11.heap.size, 0, none⟩ 1 1 [.int .u8 (n % 256)] rfl rfl ?d11a ?d11b ?d11c ?d11d ?d11e ?_)
  case d11a => exact one_news _ _ _
  case d11b => exact one_cell _
  case d11c => unfold maxLen; omega
  case d11d => omega
  case d11e => simp; omega
  intro v12 w12 hown12 hg12 _
  have hs12 := hg12.size
  simp at hs12
  have hbel12 := (hbel11.alloc (by omega) (.cells #[.int .u8 (n % 256)] 5)).grown hg12 (by simp; omega) (own_block hown11)
  go_wp2_with fail
  rw [rounds_succ]
  go_wp2_with fail
  go_ret
  exact ⟨v12, rfl, hown12, hbel12⟩
end Go.Proofs.YtkaddilgegimjaaDoor
