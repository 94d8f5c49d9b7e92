/- The bytes of a string in a new row; append onto them. -/
import Derived.Test.YtgfjlgaleddoaaaGreatDoorApo
import Derived.Test.YtgfjlgaleddoaaaGreatDoorSetC
import Derived.Laws.IdiomStrings
import Derived.Laws.IdiomCopy
import Derived.Deep.MidRow
namespace Go.Proofs.YtgfjlgaleddoaaaGreatDoor
set_option linter.unusedVariables false
set_option linter.unusedSimpArgs false
open Go.RowKit

/-- A string's bytes, as a function tells them. -/
def byteF (s : ByteArray) : Nat → Nat := fun j => (s.data.toList.getD j 0).toNat
theorem byteF_lt (s : ByteArray) (j : Nat) : byteF s j < 256 := UInt8.toNat_lt _
theorem byteF_strF {n : Nat} {f : Nat → Nat} (hf : ∀ i, i < n → f i < 256) : ∀ j, j < n → byteF (strF n f) j = f j := fun j hj => by
  unfold byteF strF
  rw [strOfNums_data, List.getD_eq_getElem?_getD, List.getElem?_map, List.getElem?_map, List.getElem?_range hj]
  have := hf j hj
  simp; omega
theorem strF_size (n : Nat) (f : Nat → Nat) : (strF n f).size = n := by
  unfold strF; rw [strOfNums_size]; simp
/-- n bytes of a string in block g, with room behind them. -/
structure SB (w : World) (g n cap : Nat) (f : Nat → Nat) : Prop where
  c : ∀ j, j < n → w.cell? ⟨g, j, none⟩ = some (.int .u8 (f j : Nat))
  r : w.there g n (cap - n)
  l : g < w.heap.size
  b : ∀ j, j < n → f j < 256
  le : n ≤ cap
theorem SB.bytes {w : World} {g n cap : Nat} {f : Nat → Nat} (h : SB w g n cap f) : Bytes w (some ⟨g, 0, none⟩) n f := fun k hk => ⟨h.b k hk, g, 0, rfl, by rw [Nat.zero_add]; exact h.c k hk⟩
theorem SB.later {w w' : World} {g n cap : Nat} {f : Nat → Nat} (h : SB w g n cap f) (hb : Below w.heap.size w w') : SB w' g n cap f := by
  have e : w'.heap[g]? = w.heap[g]? := hb.block g h.l
  refine ⟨fun j hj => by rw [World.cell?_of_block (a := ⟨g, j, none⟩) e]; exact h.c j hj, fun j hj => ?_, Nat.lt_of_lt_of_le h.l hb.size, h.b, h.le⟩
  rw [World.cell?_of_block (a := ⟨g, n + j, none⟩) e, World.frozen?_of_block (a := ⟨g, n + j, none⟩) e]; exact h.r j hj
theorem conv_sb (s : ByteArray) (w : World) (hs : s.size ≤ maxLen) : ∃ cap w', (convert 9 25 (.string s)).run Tryz.prog w = .ok (.slice (some ⟨w.heap.size, 0, none⟩) s.size cap) w' ∧ cap ≤ maxLen ∧ SB w' w.heap.size s.size cap (byteF s) ∧ Below w.heap.size w w' := by
  have hr := run_bytes_of_string (P := Tryz.prog) w 9 25 5 s Tryz.underlying9 Tryz.underlying25 Tryz.underlying5
  obtain ⟨cap, hcap⟩ : ∃ cap, grownCap w s.size 0 5 = cap := ⟨_, rfl⟩
  have hge : s.size ≤ cap := hcap ▸ grownCap_ge w s.size 0 _
  have hle : cap ≤ maxLen := hcap ▸ grownCap_le_maxLen w s.size 0 _ hs
  rw [hcap] at hr
  obtain ⟨C, hC⟩ : ∃ C, bytesRow s cap = C := ⟨_, rfl⟩
  have hsz : C.size = cap := by
    rw [← hC]; unfold bytesRow
    rw [Array.size_append, Array.size_map, Array.size_replicate]
    show s.size + (cap - s.size) = cap
    omega
  rw [hC] at hr
  have hblk : (w.drew.alloc (.cells C 5 (C.size, C.size + 1))).heap[w.heap.size]? = some (.cells C 5 (C.size, C.size + 1)) := by
    show (w.heap.push _)[w.heap.size]? = _
    simp
  refine ⟨cap, _, hr, hle, ⟨fun j hj => ?_, fun j hj => ?_, by show w.heap.size < (w.heap.push _).size; simp, fun j _ => byteF_lt s j, hge⟩, (Below.refl _ w).drew.alloc (Nat.le_refl _) _⟩
  · have h1 : (w.drew.alloc (.cells C 5 (C.size, C.size + 1))).cell? ⟨w.heap.size, j, none⟩ = C[j]? := by simp only [World.cell?, hblk, Option.isSome_none, Bool.false_eq_true, if_false]
    rw [h1, ← hC]
    unfold bytesRow
    have hj' : j < s.data.size := hj
    rw [Array.getElem?_append_left (by rw [Array.size_map]; exact hj'), Array.getElem?_map, Array.getElem?_eq_getElem hj']
    unfold byteF
    rw [List.getD_eq_getElem?_getD, Array.getElem?_toList, Array.getElem?_eq_getElem hj']
    rfl
  · have h1 : (w.drew.alloc (.cells C 5 (C.size, C.size + 1))).cell? ⟨w.heap.size, s.size + j, none⟩ = C[s.size + j]? := by simp only [World.cell?, hblk, Option.isSome_none, Bool.false_eq_true, if_false]
    have h2 : (w.drew.alloc (.cells C 5 (C.size, C.size + 1))).frozen? ⟨w.heap.size, s.size + j, none⟩ = false := by
      simp only [World.frozen?, hblk]; simp; omega
    exact ⟨by rw [h1, Array.getElem?_eq_getElem (by omega)]; rfl, h2⟩
theorem wpList_convS {ops : Array Oper} {rest : List Oper} {o : Oper} {a : Act} {Q : Exit → Act → World → Prop} (hgd : o.guard = none) (x : Operand) (ho : o.op = .convert 9 25 x) (s : ByteArray) (w : World) (hx : a.eval x = .string s) (hs : s.size ≤ maxLen)
    (h : ∀ cap w', cap ≤ maxLen → SB w' w.heap.size s.size cap (byteF s) → Below w.heap.size w w' → wpList Tryz.prog ops Q rest (a.put o.dst (.slice (some ⟨w.heap.size, 0, none⟩) s.size cap)) w') :
    wpList Tryz.prog ops Q (o :: rest) a w := by
  refine wpList_plain hgd fun K hK => ?_
  obtain ⟨cap, w', hr, h1, h2, h3⟩ := conv_sb s w hs
  unfold Oper.wp execOp
  simp only [ho, hx, hr, Sem.run_bind, Sem.run_pure, Result.andThen_ok]
  exact hK _ _ (h cap w' h1 h2 h3)
/-- append of a row onto a string's bytes. -/
theorem run_append_sb {w : World} {g n cap m c : Nat} {ad : Addr} {f G : Nat → Nat} (ty : TypeId) (h : SB w g n cap f) (hcm : cap ≤ maxLen) (hB : Bytes w (some ad) m G) (hm : n + m < 100000000000000) :
    ∃ o c' w', (Builtin.append_ #[25, 25] ty #[.slice (some ⟨g, 0, none⟩) n cap, .slice (some ad) m c]).run Tryz.prog w = .ok (.slice (some o) (n + m) c') w' ∧ n + m ≤ c' ∧ Bytes w' (some o) (n + m) (catF n f G) ∧ Own g w w' := by
  obtain ⟨i0, hi, hz0, hz1, hz2⟩ := info_parts info_u8
  by_cases hroom : n + m ≤ cap
  · have hl : (rowC m G).length = m * i0.size := by rw [rowC_len, hz1, Nat.mul_one]
    have hf := run_firstCells_some (P := Tryz.prog) w i0.size m ad m c (rowC m G) hl hB.newsA
    rw [hz1] at hf
    have hth : ∀ j, j < (rowC m G).length → (w.cell? ⟨g, n + j, none⟩).isSome = true ∧ w.frozen? ⟨g, n + j, none⟩ = false := fun j hj => h.r j (by rw [rowC_len] at hj; omega)
    have hst := run_storeCells_cells (P := Tryz.prog) g n (rowC m G) 0 w (fun j hj => (hth j hj).1) (fun j hj => (hth j hj).2) (rowC_one m G)
    simp only [Nat.add_zero] at hst
    have hadd : (⟨g, 0, none⟩ : Addr).add (n * i0.size) = ⟨g, n, none⟩ := by rw [hz1, Nat.mul_one, Addr.add_mid, Nat.zero_add]
    refine ⟨⟨g, 0, none⟩, cap, w.setCells g n (rowC m G), ?_, hroom, fun k hk => ?_, Own.setCells _ _ _⟩
    · have hadd1 : (⟨g, 0, none⟩ : Addr).add n = ⟨g, n, none⟩ := by rw [Addr.add_mid, Nat.zero_add]
      simp [Builtin.append_, run_underlying Tryz.underlying25, sizeOf, typeInfo, hi, Builtin.lenOf, hroom, hf, hst, hz1, hadd1]
    · unfold catF
      by_cases e : k < n
      · rw [if_pos e]
        refine ⟨h.b k e, g, 0, rfl, ?_⟩
        rw [Nat.zero_add, World.cell?_setCells_out g (rowC m G) n w ⟨g, k, none⟩ (fun _ _ => .inl e)]
        exact h.c k e
      · rw [if_neg e]
        have hkm : k - n < m := by omega
        refine ⟨(hB (k - n) hkm).1, g, 0, rfl, ?_⟩
        have := World.cell?_setCells_in g (rowC m G) n w (fun j hj => (hth j hj).1) (k - n) (by rw [rowC_len]; exact hkm)
        rw [show n + (k - n) = 0 + k by omega] at this
        rw [this]
        have h2 := rowC_get G hkm
        rw [List.getElem?_eq_getElem (by rw [rowC_len]; exact hkm)] at h2
        exact h2
  · have hlo : (rowC n f).length = n * i0.size := by rw [rowC_len, hz1, Nat.mul_one]
    have hl : (rowC m G).length = m * i0.size := by rw [rowC_len, hz1, Nat.mul_one]
    have hr := run_append_grow (P := Tryz.prog) w 25 ty 5 i0 (.int .u8 0) Tryz.underlying25 hi hz0 ⟨g, 0, none⟩ n cap (rowC n f) hlo h.bytes.newsA ad m c (rowC m G) hl hB.newsA (by omega) (by omega) (growslice_fits (by omega) (by rw [hz2]; omega))
    obtain ⟨cp, hcp⟩ : ∃ cp, grownCap w (n + m) cap 5 = cp := ⟨_, rfl⟩
    have hge : n + m ≤ cp := hcp ▸ grownCap_ge w (n + m) cap _
    rw [hcp] at hr
    refine ⟨_, _, _, hr, hge, fun k hk => ?_, Own.of_below ((Below.refl _ w).drew.alloc (Nat.le_refl _) _)⟩
    have hblk : ∀ C : Array Value, (w.drew.alloc (.cells C 5)).cell? ⟨w.heap.size, 0 + k, none⟩ = C[k]? := fun C => by
      have : (w.drew.alloc (.cells C 5)).heap[w.heap.size]? = some (.cells C 5) := by
        show (w.heap.push _)[w.heap.size]? = _
        simp
      rw [Nat.zero_add]; simp only [World.cell?, this, Option.isSome_none, Bool.false_eq_true, if_false]
    have hb : catF n f G k < 256 := by
      unfold catF
      by_cases e : k < n
      · rw [if_pos e]; exact h.b k e
      · rw [if_neg e]; exact (hB (k - n) (by omega)).1
    refine ⟨hb, w.heap.size, 0, rfl, ?_⟩
    rw [hblk]
    have h2 := rowC_get (n := n + m) (catF n f G) hk
    rw [rowC_cat] at h2
    rw [Array.getElem?_append_left (by simp [rowC_len]; exact hk)]
    rw [← Array.getElem?_toList]
    simpa using h2
theorem wpList_appS {ops : Array Oper} {rest : List Oper} {o : Oper} {a : Act} {Q : Exit → Act → World → Prop} (hgd : o.guard = none) (s x : Operand)
    (ho : o.op = .call { callee := .builtin .append, args := #[s, x], argTypes := #[25, 25] })
    (g n cap m c : Nat) (ad : Addr) (f G : Nat → Nat) (w : World) (hs : a.eval s = .slice (some ⟨g, 0, none⟩) n cap) (h : SB w g n cap f) (hcm : cap ≤ maxLen) (hx : a.eval x = .slice (some ad) m c) (hB : Bytes w (some ad) m G) (hm : n + m < 100000000000000)
    (hk : ∀ o' c' w', n + m ≤ c' → Bytes w' (some o') (n + m) (catF n f G) → Own g w w' → wpList Tryz.prog ops Q rest (a.put o.dst (.slice (some o') (n + m) c')) w') :
    wpList Tryz.prog ops Q (o :: rest) a w := by
  refine wpList_plain hgd fun K hK => ?_
  obtain ⟨o', c', w', hr, h1, h2, h3⟩ := run_append_sb o.type h hcm hB hm (c := c)
  unfold Oper.wp execOp
  simp only [ho, resolve, invoke, builtin, Sem.run_bind, Sem.run_pure, Result.andThen_ok, List.map_toArray, List.map_cons, List.map_nil, hs, hx, hr]
  exact hK _ _ (hk o' c' w' h1 h2 h3)
end Go.Proofs.YtgfjlgaleddoaaaGreatDoor
