/- The document's Encode of layer 30. -/
import Derived.Test.YtkaddilgegimjaaDoorEm2
import Derived.Test.YtkaddilgegimjaaDoorEs3
import Derived.Deep.RegionHeld3
namespace Go.Proofs.YtkaddilgegimjaaDoor
set_option linter.unusedVariables false
set_option linter.unusedSimpArgs false
open Go.RowKit

/-- append of nothing. -/
theorem run_append_none_c {w : World} {base n c : Nat} {v : Value} {f : Nat → Nat} (ty : TypeId) (hown : Grow w base v n f) :
    (Builtin.append_ #[31, 31] ty #[v, .slice none 0 c]).run Tryd.prog w = .ok v w := by
  obtain ⟨i0, hi, _, _, _⟩ := info_parts info_u8
  rcases hown.2 with ⟨rfl, rfl⟩ | ⟨g, cap, cur, rfl, _, _, hnc, _⟩
  · simp [Builtin.append_, run_underlying Tryd.underlying31, sizeOf, typeInfo, hi, Builtin.lenOf, Builtin.firstCells]
  · simp [Builtin.append_, run_underlying Tryd.underlying31, sizeOf, typeInfo, hi, Builtin.lenOf, Builtin.firstCells, hnc, storeCells]
/-- append of a row, wherever it lies, nil too; what else is there stays. -/
theorem wpList_appO {ops : Array Oper} {rest : List Oper} {o : Oper} {a : Act} {Q : Exit → Act → World → Prop} (hgd : o.guard = none) (s x : Operand)
    (ho : o.op = .call { callee := .builtin .append, args := #[s, x], argTypes := #[31, 31] })
    (base : Nat) (v : Value) (n m cp : Nat) (od : Option Addr) (f g : Nat → Nat) (W : World) (hs : a.eval s = v) (hown : Grow W base v n f) (hx : a.eval x = .slice od m cp) (hno : od = none → m = 0)
    (hB : Bytes W od m g) (hn : n + m < 100000000000000) (hbase : base ≤ W.heap.size)
    (h : ∀ v' w', Grow w' base v' (n + m) (catF n f g) → W.grownBy w' v.ownBlock → (v'.ownBlock = v.ownBlock ∨ v'.ownBlock = some W.heap.size) → wpList Tryd.prog ops Q rest (a.put o.dst v') w') :
    wpList Tryd.prog ops Q (o :: rest) a W := by
  obtain ⟨i0, hi, hz0, hz1, hz2⟩ := info_parts info_u8
  cases od with
  | none =>
    obtain rfl := hno rfl
    refine wpList_plain hgd fun K hK => ?_
    have hr := run_append_none_c (c := cp) o.type hown
    unfold Oper.wp execOp
    simp only [ho, resolve, invoke, builtin, Sem.run_bind, Sem.run_pure, Result.andThen_ok, List.map_toArray, List.map_cons, List.map_nil, hs, hx, hr]
    exact hK _ _ (h _ _ (hown.congr fun i hi => by unfold catF; rw [if_pos (by omega)]) ⟨rfl, rfl, rfl, Nat.le_refl _, fun _ _ _ => rfl⟩ (.inl rfl))
  | some ad =>
    refine wpList_append_own_at _ hgd s x 31 ho base 5 i0 (.int .u8 0) 1 1 Tryd.underlying31 hi hz0 hz1 hz2 rfl (by decide) v n (rowC n f) hs hown ad m cp (rowC m g) hx (by rw [rowC_len, Nat.mul_one])
      hB.newsA (rowC_one m g) (by unfold maxLen; omega) (by omega) hbase ?_
    intro v' w' hown' hg _ hat
    refine h v' w' ?_ hg hat
    unfold Grow
    rw [rowC_cat]; exact hown'
theorem step_appO {ops : Array Oper} {o : Oper} {a : Act} {K : Act → World → Prop} {Q : Exit → Act → World → Prop} {E : Prop} (hgd : o.guard = none) (s x : Operand)
    (ho : o.op = .call { callee := .builtin .append, args := #[s, x], argTypes := #[31, 31] })
    (base : Nat) (v : Value) (n m cp : Nat) (od : Option Addr) (f g : Nat → Nat) (W : World) (hs : a.eval s = v) (hown : Grow W base v n f) (hx : a.eval x = .slice od m cp) (hno : od = none → m = 0)
    (hB : Bytes W od m g) (hn : n + m < 100000000000000) (hbase : base ≤ W.heap.size)
    (h : ∀ v' w', Grow w' base v' (n + m) (catF n f g) → W.grownBy w' v.ownBlock → (v'.ownBlock = v.ownBlock ∨ v'.ownBlock = some W.heap.size) → K (a.put o.dst v') w') :
    if Region.wanted o (yielded ops a.tmps) = true then Oper.wp Tryd.prog o a W K Q else E := by
  obtain ⟨i0, hi, hz0, hz1, hz2⟩ := info_parts info_u8
  have hw : Region.wanted o (yielded ops a.tmps) = true := by simp [Region.wanted, hgd]
  rw [if_pos hw]
  cases od with
  | none =>
    obtain rfl := hno rfl
    have hr := run_append_none_c (c := cp) o.type hown
    unfold Oper.wp execOp
    simp only [ho, resolve, invoke, builtin, Sem.run_bind, Sem.run_pure, Result.andThen_ok, List.map_toArray, List.map_cons, List.map_nil, hs, hx, hr]
    exact h _ _ (hown.congr fun i hi => by unfold catF; rw [if_pos (by omega)]) ⟨rfl, rfl, rfl, Nat.le_refl _, fun _ _ _ => rfl⟩ (.inl rfl)
  | some ad =>
    obtain ⟨v', w', hr, h2, h3, h4, h5⟩ := run_append_own_at (P := Tryd.prog) W base 31 o.type 5 i0 (.int .u8 0) 1 1 Tryd.underlying31 hi hz0 hz1 hz2 rfl (by decide) v n (rowC n f) hown ad m cp (rowC m g) (by rw [rowC_len, Nat.mul_one]) hB.newsA (rowC_one m g) (by unfold maxLen; omega) (by omega) hbase
    unfold Oper.wp execOp
    simp only [ho, resolve, invoke, builtin, Sem.run_bind, Sem.run_pure, Result.andThen_ok, List.map_toArray, List.map_cons, List.map_nil, hs, hx, hr]
    exact h _ _ (by unfold Grow; rw [rowC_cat]; exact h2) h3 h5
theorem catF_self {G g : Nat → Nat} {n m : Nat} (h : ∀ i, i < m → g i = G (n + i)) : ∀ i, i < n + m → catF n G g i = G i := fun i hi => by
  unfold catF
  by_cases e : i < n
  · rw [if_pos e]
  · rw [if_neg e, h (i - n) (by omega)]; congr 1; omega
theorem ob1 {w : World} {z : Int} {y : Nat} (hz : z = (y : Int)) (hy : y < 256) : Bytes (w.alloc (.cells #[.int .u8 z] 5)) (some ⟨w.heap.size, 0, none⟩) 1 (fun _ => y) := fun k hk => ⟨hy, w.heap.size, 0, rfl, by
  subst hz
  obtain rfl : k = 0 := by omega
  exact World.cell?_alloc_mark w #[.int .u8 (y : Int)] 5 (0, 0) 0⟩
def two (x y : Nat) : Nat → Nat := fun i => if i = 0 then x else y
theorem ob2 {w : World} {x y : Nat} (hx : x < 256) (hy : y < 256) : Bytes (w.alloc (.cells #[.int .u8 (x : Int), .int .u8 (y : Int)] 5)) (some ⟨w.heap.size, 0, none⟩) 2 (two x y) := fun k hk => ⟨by unfold two; split <;> assumption, w.heap.size, 0, rfl, by
  match k, hk with
  | 0, _ => exact World.cell?_alloc_mark w #[.int .u8 (x : Int), .int .u8 (y : Int)] 5 (0, 0) 0
  | 1, _ => exact World.cell?_alloc_mark w #[.int .u8 (x : Int), .int .u8 (y : Int)] 5 (0, 0) 1⟩
/-- Bytes of the call's own, behind a block that is kept. -/
def EG (w0 : World) (b : Nat) (C : Array Value) (t : TypeId) (N : Nat) (F : Nat → Nat) (v : Value) (wx : World) : Prop := Grow wx (w0.heap.size + 1) v N F ∧ b ≤ w0.heap.size ∧ Blk wx b C t ∧ Below w0.heap.size w0 wx ∧ w0.heap.size < wx.heap.size
section
variable {w0 w w' : World} {b N N' : Nat} {C : Array Value} {t : TypeId} {F G : Nat → Nat} {v v' : Value}
theorem EG.grow (h : EG w0 b C t N F v w) : Grow w (w0.heap.size + 1) v N F := h.1
theorem EG.blk (h : EG w0 b C t N F v w) : Blk w b C t := h.2.2.1
theorem EG.bel (h : EG w0 b C t N F v w) : Below w0.heap.size w0 w := h.2.2.2.1
theorem EG.lt (h : EG w0 b C t N F v w) : w0.heap.size + 1 ≤ w.heap.size := h.2.2.2.2
theorem EG.next (h : EG w0 b C t N F v w) (hG : Grow w' (w0.heap.size + 1) v' N' G) (hg : w.grownBy w' v.ownBlock) : EG w0 b C t N' G v' w' := by
  have hb : Below (w0.heap.size + 1) w w' := (Below.refl _ w).grown hg h.lt (Grow.block h.grow)
  obtain ⟨_, h2, h3, h4, h5⟩ := h
  exact ⟨hG, h2, h3.below hb (by omega), h4.trans (hb.mono (by omega)), Nat.lt_of_lt_of_le h5 hb.size⟩
theorem EG.alloc (h : EG w0 b C t N F v w) (o : Obj) : EG w0 b C t N F v (w.alloc o) := by
  obtain ⟨h1, h2, h3, h4, h5⟩ := h
  exact ⟨World.ownsRow.alloc h1 _, h2, h3.alloc _, h4.alloc (by omega) _, by simp; omega⟩
theorem EG.congr (h : EG w0 b C t N F v w) (hF : ∀ i, i < N → F i = G i) : EG w0 b C t N G v w := ⟨h.1.congr hF, h.2⟩
/-- The same, behind another block as well, that was made behind them. -/
def EH (w0 : World) (b : Nat) (C : Array Value) (t : TypeId) (q : Nat) (D : Array Value) (u : TypeId) (N : Nat) (F : Nat → Nat) (v : Value) (wx : World) : Prop := EG w0 b C t N F v wx ∧ Blk wx q D u ∧ ∀ z, v.ownBlock = some z → z ≠ q
variable {q : Nat} {D : Array Value} {u : TypeId}
theorem EH.eg (h : EH w0 b C t q D u N F v w) : EG w0 b C t N F v w := h.1
theorem EH.tmp (h : EH w0 b C t q D u N F v w) : Blk w q D u := h.2.1
theorem EH.new (h : EG w0 b C t N F v w) : EH w0 b C t w.heap.size D u N F v (w.alloc (.cells D u)) := ⟨h.alloc _, Blk.new _ _ _, fun z hz => by have := (World.ownsRow.lt h.grow z hz).2; omega⟩
theorem EH.alloc (h : EH w0 b C t q D u N F v w) (o : Obj) : EH w0 b C t q D u N F v (w.alloc o) := ⟨h.1.alloc o, h.2.1.alloc o, h.2.2⟩
theorem EH.drew (h : EH w0 b C t q D u N F v w) : EH w0 b C t q D u N F v w.drew := ⟨⟨h.1.1, h.1.2.1, h.1.2.2.1, h.1.bel.drew, h.1.2.2.2.2⟩, h.2.1, h.2.2⟩
theorem EH.next (h : EH w0 b C t q D u N F v w) (hG : Grow w' (w0.heap.size + 1) v' N' G) (hg : w.grownBy w' v.ownBlock) (hat : v'.ownBlock = v.ownBlock ∨ v'.ownBlock = some w.heap.size) : EH w0 b C t q D u N' G v' w' := by
  have hl := h.2.1.lt
  refine ⟨h.1.next hG hg, ?_, fun z hz => ?_⟩
  · have h2 := h.2.1
    unfold Blk at h2 ⊢
    rw [hg.block q hl (fun e => h.2.2 q e.symm rfl)]; exact h2
  · rcases hat with e | e
    · exact h.2.2 z (e.symm.trans hz)
    · rw [e] at hz; cases hz; omega
end
theorem head_at {n last M j D : Nat} (hj : j < 4) (hD : D = 256 ^ (3 - j)) : headF n last M (3 + j) = last / D % 256 := by
  unfold headF numB
  rw [if_neg (by omega), if_neg (by omega), if_neg (by omega), if_pos (by omega), Nat.add_sub_cancel_left, hD, show 4 - 1 - j = 3 - j by omega]
theorem ver_at {n last M k j D : Nat} {V : Nat → Ver} (hj : j < 8) (hD : D = 256 ^ (7 - j)) : encF n last M V (k + 1) (encL V k + j) = (V k).t / D % 256 := by
  rw [encF_ver (Nat.lt_succ_self k) (by omega)]
  unfold verF numB
  rw [if_pos hj, hD]

set_option maxRecDepth 100000 in
set_option maxHeartbeats 1000000 in
theorem renc_bad (oa : Option Addr) (n cp last : Nat) (max : Int) (V : Nat → Ver) (w : World) (hn : n ≤ maxLen) (hl : last < 4294967296) (hV : Vers w oa n V) (hm : ∀ i, i < n → (V i).n < 4294967296) (h : ¬ SecOk n last max V) :
    Calls Tryd.prog 58 #[.agg #[.slice oa n cp, .int .u32 (last : Int), .int .i64 max]] w fun e w' => e = .returned (.tuple #[.slice none 0 0, .int .i64 1]) ∧ Below w.heap.size w w' := by
  have HV := Lib.hid (hV.later ((Below.refl _ _).alloc (Nat.le_refl _) _ : Below w.heap.size w (w.alloc (.cells #[.slice oa n cp, .int .u32 (last : Int), .int .i64 max] 73))))
  have HF := Lib.hid fun w2 (hV2 : Vers w2 oa n V) => rmay_no' oa n cp last max V w2 hn hl hV2 hm h
  clear hV h hn hm
  go_enter Tryd.func58, Tryd.ntmps58
  go_wp2_with fail
  refine (HF.out _ HV.out).mono ?_
  rintro e w1 ⟨rfl, hb⟩
  go_wp2_with fail
  go_ret2
  exact ⟨rfl, ((Below.refl _ _).alloc (Nat.le_refl _) _).trans (hb.mono (by simp))⟩
set_option maxRecDepth 100000 in
set_option maxHeartbeats 8000000 in
theorem renc_ok (oa : Option Addr) (n cp last M : Nat) (V : Nat → Ver) (w : World) (hl : last < 4294967296) (hV : Vers w oa n V) (hm : ∀ i, i < n → (V i).n < 4294967296) (ht : ∀ i, i < n → (V i).t < 18446744073709551616) (h : SecOk n last (M : Int) V) :
    Calls Tryd.prog 58 #[.agg #[.slice oa n cp, .int .u32 (last : Int), .int .i64 (M : Int)]] w fun e w' => ∃ v, e = .returned (.tuple #[v, .int .i64 0]) ∧ EG w w.heap.size #[.slice oa n cp, .int .u32 (last : Int), .int .i64 (M : Int)] 73 (encL V n) (encF n last M V n) v w' := by
  have hn8 : n ≤ 8 := by have := h.1.2.1; have := h.1.2.2.1; omega
  have hM8 : M ≤ 8 := by have := h.1.2.1; omega
  have HN8 := Lib.hid (show n < 256 by omega)
  have HM8 := Lib.hid (show M < 256 by omega)
  have HV := Lib.hid (hV.later ((Below.refl _ _).alloc (Nat.le_refl _) _ : Below w.heap.size w (w.alloc (.cells #[.slice oa n cp, .int .u32 (last : Int), .int .i64 (M : Int)] 73))))
  have HV0 := Lib.hid hV
  have HF := Lib.hid fun w2 (hV2 : Vers w2 oa n V) => rmay_yes oa n cp last (M : Int) V w2 (by unfold maxLen; omega) hl hV2 hm h
  have HS := Lib.hid h
  have HT := Lib.hid ht
  have n8 : (n : Int) ≤ 8 := by omega
  have m8 : (M : Int) ≤ 8 := by omega
  have n0 : (0 : Int) ≤ (n : Int) := by omega
  have m0 : (0 : Int) ≤ (M : Int) := by omega
  have l0 : (0 : Int) ≤ (last : Int) := by omega
  have l1 : (last : Int) < 4294967296 := by omega
  clear hV h hl ht hn8 hM8 hm
  go_enter Tryd.func58, Tryd.ntmps58
  go_wp2_with fail
  refine (HF.out _ HV.out).mono ?_
  rintro e w1 ⟨rfl, hb⟩
  have hX : Blk w1 w.heap.size #[.slice oa n cp, .int .u32 (last : Int), .int .i64 (M : Int)] 73 := Blk.below (Blk.new _ _ _) hb (by simp)
  have hO : Below w.heap.size w w1 := ((Below.refl _ _).alloc (Nat.le_refl _) _).trans (hb.mono (by simp))
  have x2 : w1.cell? ⟨w.heap.size, 2, none⟩ = some (.int .i64 (M : Int)) := Blk.cell hX 2
  have hE0 : EG w w.heap.size #[.slice oa n cp, .int .u32 (last : Int), .int .i64 (M : Int)] 73 3 (headF n last M) (.slice (some ⟨w1.heap.size, 0, none⟩) 3 3) (w1.alloc (.cells #[.int .u8 115, .int .u8 101, .int .u8 (M : Int)] 5)) := by
    have hlt := Blk.lt hX
    refine ⟨Grow.row (f := headF n last M) ?_ (by omega) (by unfold maxLen; omega), Nat.le_refl _, hX.alloc _, hO.alloc hO.size _, by simp; omega⟩
    exact Blk.new _ _ _
  have HE0 := Lib.hid hE0
  clear hX hO hE0 hb HF HV
  go_wp2_with fail
  go_loopw [4, 5] (fun v i wr => ∃ (j : Nat) (z : Int), i = .int .i64 z ∧ (z = 24 ∧ j = 0 ∨ z = 16 ∧ j = 1 ∨ z = 8 ∧ j = 2 ∨ z = 0 ∧ j = 3 ∨ z = -8 ∧ j = 4) ∧ EG w w.heap.size #[.slice oa n cp, .int .u32 (last : Int), .int .i64 (M : Int)] 73 (3 + j) (headF n last M) v wr) (fun _ i _ => (intOf i + 8).toNat)
  case atStart => exact ⟨0, 24, rfl, .inl ⟨rfl, rfl⟩, HE0.out⟩
  case round =>
    obtain ⟨j, z, rfl, hz, hE⟩ := hrel
    have x1 : wr.cell? ⟨w.heap.size, 1, none⟩ = some (.int .u32 (last : Int)) := Blk.cell hE.blk 1
    have HE := Lib.hid hE
    clear hE x2
    rcases hz with ⟨rfl, rfl⟩ | ⟨rfl, rfl⟩ | ⟨rfl, rfl⟩ | ⟨rfl, rfl⟩ | ⟨rfl, rfl⟩
    · have HGr := Lib.hid (HE.out.alloc (.cells #[.int .u8 ((last : Int) / 16777216)] 5)).grow
      have HB1 := Lib.hid (ob1 (w := wr) (z := (last : Int) / 16777216) (y := last / 16777216 % 256) (by omega) (Nat.mod_lt _ (by decide)))
      have HLt := Lib.hid (HE.out.alloc (.cells #[.int .u8 ((last : Int) / 16777216)] 5)).lt
      go_wp2_with (at_builtin; refine wpList_appO rfl (.tmp 20) (.tmp 27) rfl (w.heap.size + 1) _ (3 + 0) 1 1 (some ⟨wr.heap.size, 0, none⟩) (headF n last M) (fun _ => last / 16777216 % 256) _ rfl HGr.out rfl (fun e => by cases e) HB1.out (by decide) HLt.out ?_)
      intro v2 w2 hG2 hg2 _
      have HE2 := Lib.hid ((HE.out.alloc (.cells #[.int .u8 ((last : Int) / 16777216)] 5)).next (hG2.congr (catF_self (m := 1) fun i hi => by obtain rfl : i = 0 := (by omega); exact (head_at (j := 0) (D := 16777216) (by decide) (by decide)).symm)) hg2)
      clear hG2 hg2 HGr HB1 HLt x1
      go_wp2_with fail
      go_roundw
      case rel => exact ⟨1, 16, rfl, by decide, HE2.out⟩
      case measure => simp [intOf]
    · have HGr := Lib.hid (HE.out.alloc (.cells #[.int .u8 ((last : Int) / 65536 % 256)] 5)).grow
      have HB1 := Lib.hid (ob1 (w := wr) (z := (last : Int) / 65536 % 256) (y := last / 65536 % 256) (by omega) (Nat.mod_lt _ (by decide)))
      have HLt := Lib.hid (HE.out.alloc (.cells #[.int .u8 ((last : Int) / 65536 % 256)] 5)).lt
      go_wp2_with (at_builtin; refine wpList_appO rfl (.tmp 20) (.tmp 27) rfl (w.heap.size + 1) _ (3 + 1) 1 1 (some ⟨wr.heap.size, 0, none⟩) (headF n last M) (fun _ => last / 65536 % 256) _ rfl HGr.out rfl (fun e => by cases e) HB1.out (by decide) HLt.out ?_)
      intro v2 w2 hG2 hg2 _
      have HE2 := Lib.hid ((HE.out.alloc (.cells #[.int .u8 ((last : Int) / 65536 % 256)] 5)).next (hG2.congr (catF_self (m := 1) fun i hi => by obtain rfl : i = 0 := (by omega); exact (head_at (j := 1) (D := 65536) (by decide) (by decide)).symm)) hg2)
      clear hG2 hg2 HGr HB1 HLt x1
      go_wp2_with fail
      go_roundw
      case rel => exact ⟨2, 8, rfl, by decide, HE2.out⟩
      case measure => simp [intOf]
    · have HGr := Lib.hid (HE.out.alloc (.cells #[.int .u8 ((last : Int) / 256 % 256)] 5)).grow
      have HB1 := Lib.hid (ob1 (w := wr) (z := (last : Int) / 256 % 256) (y := last / 256 % 256) (by omega) (Nat.mod_lt _ (by decide)))
      have HLt := Lib.hid (HE.out.alloc (.cells #[.int .u8 ((last : Int) / 256 % 256)] 5)).lt
      go_wp2_with (at_builtin; refine wpList_appO rfl (.tmp 20) (.tmp 27) rfl (w.heap.size + 1) _ (3 + 2) 1 1 (some ⟨wr.heap.size, 0, none⟩) (headF n last M) (fun _ => last / 256 % 256) _ rfl HGr.out rfl (fun e => by cases e) HB1.out (by decide) HLt.out ?_)
      intro v2 w2 hG2 hg2 _
      have HE2 := Lib.hid ((HE.out.alloc (.cells #[.int .u8 ((last : Int) / 256 % 256)] 5)).next (hG2.congr (catF_self (m := 1) fun i hi => by obtain rfl : i = 0 := (by omega); exact (head_at (j := 2) (D := 256) (by decide) (by decide)).symm)) hg2)
      clear hG2 hg2 HGr HB1 HLt x1
      go_wp2_with fail
      go_roundw
      case rel => exact ⟨3, 0, rfl, by decide, HE2.out⟩
      case measure => simp [intOf]
    · have HGr := Lib.hid (HE.out.alloc (.cells #[.int .u8 ((last : Int) % 256)] 5)).grow
      have HB1 := Lib.hid (ob1 (w := wr) (z := (last : Int) % 256) (y := last % 256) (by omega) (Nat.mod_lt _ (by decide)))
      have HLt := Lib.hid (HE.out.alloc (.cells #[.int .u8 ((last : Int) % 256)] 5)).lt
      go_wp2_with (at_builtin; refine wpList_appO rfl (.tmp 20) (.tmp 27) rfl (w.heap.size + 1) _ (3 + 3) 1 1 (some ⟨wr.heap.size, 0, none⟩) (headF n last M) (fun _ => last % 256) _ rfl HGr.out rfl (fun e => by cases e) HB1.out (by decide) HLt.out ?_)
      intro v2 w2 hG2 hg2 _
      have HE2 := Lib.hid ((HE.out.alloc (.cells #[.int .u8 ((last : Int) % 256)] 5)).next (hG2.congr (catF_self (m := 1) fun i hi => by obtain rfl : i = 0 := (by omega); have h := head_at (n := n) (last := last) (M := M) (j := 3) (D := 1) (by decide) (by decide); rw [Nat.div_one] at h; exact h.symm)) hg2)
      clear hG2 hg2 HGr HB1 HLt x1
      go_wp2_with fail
      go_roundw
      case rel => exact ⟨4, -8, rfl, by decide, HE2.out⟩
      case measure => simp [intOf]
    · have x0 : wr.cell? ⟨w.heap.size, 0, none⟩ = some (.slice oa n cp) := Blk.cell HE.out.blk 0
      have HGr := Lib.hid (HE.out.alloc (.cells #[.int .u8 (n : Int)] 5)).grow
      have HB1 := Lib.hid (ob1 (w := wr) (z := (n : Int)) (y := n) rfl HN8.out)
      have HLt := Lib.hid (HE.out.alloc (.cells #[.int .u8 (n : Int)] 5)).lt
      clear x1
      go_wp2_with (at_builtin; refine wpList_appO rfl (.tmp 29) (.tmp 34) rfl (w.heap.size + 1) _ (3 + 4) 1 1 (some ⟨wr.heap.size, 0, none⟩) (headF n last M) (fun _ => n) _ rfl HGr.out rfl (fun e => by cases e) HB1.out (by decide) HLt.out ?_)
      intro v2 w2 hG2 hg2 _
      have hE2 : EG w w.heap.size #[.slice oa n cp, .int .u32 (last : Int), .int .i64 (M : Int)] 73 (encL V 0) (encF n last M V 0) v2 w2 := (HE.out.alloc (.cells #[.int .u8 (n : Int)] 5)).next (hG2.congr (catF_self (m := 1) fun i hi => by obtain rfl : i = 0 := (by omega); rfl)) hg2
      have HE2 := Lib.hid hE2
      clear hG2 hg2 HGr HB1 HLt x0 hE2 HE HE0
      go_wp2_with fail
      go_loopw [4, 6] (fun v i wr => ∃ k : Nat, k ≤ n ∧ i = .int .i64 (k : Int) ∧ EG w w.heap.size #[.slice oa n cp, .int .u32 (last : Int), .int .i64 (M : Int)] 73 (encL V k) (encF n last M V k) v wr) (fun _ i _ => n - (intOf i).toNat)
      case atStart => exact ⟨0, Nat.zero_le _, rfl, HE2.out⟩
      case round =>
        obtain ⟨k, hk, rfl, hE⟩ := hrel
        obtain ⟨wr1, rfl⟩ : ∃ wo : World, wo = wr := ⟨_, rfl⟩
        have x0 : wr1.cell? ⟨w.heap.size, 0, none⟩ = some (.slice oa n cp) := Blk.cell hE.blk 0
        by_cases hlt : k < n
        · obtain ⟨b, off, od, cap, rfl, hB, hno, hlc, hcm, c0, c1, c2, c3⟩ := HV0.out.get k hlt
          replace c0 := cell_below hE.bel c0
          replace c1 := cell_below hE.bel c1
          replace c2 := cell_below hE.bel c2
          replace c3 := cell_below hE.bel c3
          have hvk := (HS.out.2 k hlt).2
          obtain ⟨S, hSt⟩ : ∃ S : Nat, (V k).st = (S : Int) := ⟨(V k).st.toNat, by have := hvk.2.1; omega⟩
          have hS2 : S ≤ 2 := by have := hvk.2.2.1; omega
          have hl1 : (V k).len ≤ 100 := hvk.1
          have ht1 := HT.out k hlt
          have HX8 := Lib.hid (fun j D (hj : j < 8) (hD : D = 256 ^ (7 - j)) => ver_at (n := n) (last := last) (M := M) (V := V) (k := k) hj hD)
          have HXs := Lib.hid (show encF n last M V (k + 1) (encL V k + 8) = S by rw [encF_ver (Nat.lt_succ_self k) (by omega)]; unfold verF; rw [if_neg (by decide), if_pos rfl, hSt]; exact Int.toNat_natCast S)
          have HXl := Lib.hid (show encF n last M V (k + 1) (encL V k + 9) = (V k).len by rw [encF_ver (Nat.lt_succ_self k) (by omega)]; rfl)
          have HXd := Lib.hid (fun i (hi : i < (V k).len) => (show encF n last M V (k + 1) (encL V k + (10 + i)) = (V k).f i by rw [encF_ver (Nat.lt_succ_self k) (by omega)]; unfold verF; rw [if_neg (by omega), if_neg (by omega), if_neg (by omega), Nat.add_sub_cancel_left]))
          have HXn := Lib.hid (show encL V (k + 1) = encL V k + (10 + (V k).len) from rfl)
          have hE' := hE.congr (G := encF n last M V (k + 1)) fun i hi => (encF_pre (k := k + 1) (Nat.le_succ k) i hi).symm
          have HLB := Lib.hid (show encL V k ≤ 1000000 by have := encL_bound (V := V) (m := 100) (k := k) (fun i hi => (HS.out.2 i (by omega)).2.1); have hn := HN8.out; omega)
          obtain ⟨EN, hEN⟩ : ∃ x, encL V k = x := ⟨_, rfl⟩
          obtain ⟨G, hG⟩ : ∃ x, encF n last M V (k + 1) = x := ⟨_, rfl⟩
          rw [hEN] at HX8 HXs HXl HXd HXn HLB hE'
          rw [hG] at HX8 HXs HXl HXd hE'
          have HGG := Lib.hid hG
          clear hEN hG hvk hE
          obtain ⟨m, hmm⟩ : ∃ x, (V k).n = x := ⟨_, rfl⟩
          obtain ⟨len, hlen⟩ : ∃ x, (V k).len = x := ⟨_, rfl⟩
          obtain ⟨t, htt⟩ : ∃ x, (V k).t = x := ⟨_, rfl⟩
          obtain ⟨f, hff⟩ : ∃ x, (V k).f = x := ⟨_, rfl⟩
          rw [hlen] at HXl HXd HXn hl1 hlc hno c1 hB
          rw [hff] at HXd hB
          rw [htt] at ht1 c2 HX8
          rw [hmm] at c0
          rw [hSt] at c3
          clear hmm hlen htt hff hSt
          have k0 : (0 : Int) ≤ (k : Int) := by omega
          have k1 : (k : Int) < (n : Int) := by omega
          have s0 : (0 : Int) ≤ (S : Int) := by omega
          have s2 : (S : Int) ≤ 2 := by omega
          have t0 : (0 : Int) ≤ (t : Int) := by omega
          have t1 : (t : Int) < 18446744073709551616 := by omega
          have l100 : (len : Int) ≤ 100 := by omega
          have HB := Lib.hid hB
          have HNO := Lib.hid hno
          have HL1 := Lib.hid hl1
          have HE3 := Lib.hid (EH.new (D := #[.int .u32 (m : Int), .slice od len cap, .int .u64 (t : Int), .int .i64 (S : Int)]) (u := 89) hE')
          have HO1 := Lib.hid hE'.bel
          clear hE' hB hno ht1 hl1 hlc hcm hS2
          go_wp2_with fail
          go_loopw [4, 8] (fun v i wr => ∃ (j : Nat) (z : Int), i = .int .i64 z ∧ (z = 56 ∧ j = 0 ∨ z = 48 ∧ j = 1 ∨ z = 40 ∧ j = 2 ∨ z = 32 ∧ j = 3 ∨ z = 24 ∧ j = 4 ∨ z = 16 ∧ j = 5 ∨ z = 8 ∧ j = 6 ∨ z = 0 ∧ j = 7 ∨ z = -8 ∧ j = 8) ∧ EH w w.heap.size #[.slice (some ⟨b, off, none⟩) n cp, .int .u32 (last : Int), .int .i64 (M : Int)] 73 wr1.heap.size #[.int .u32 (m : Int), .slice od len cap, .int .u64 (t : Int), .int .i64 (S : Int)] 89 (EN + j) G v wr) (fun _ i _ => (intOf i + 8).toNat)
          case atStart => exact ⟨0, 56, rfl, .inl ⟨rfl, rfl⟩, HE3.out⟩
          case round =>
            obtain ⟨j, z, rfl, hz, hE⟩ := hrel
            obtain ⟨wr2, rfl⟩ : ∃ wo : World, wo = wr := ⟨_, rfl⟩
            have y2 : wr2.cell? ⟨wr1.heap.size, 2, none⟩ = some (.int .u64 (t : Int)) := Blk.cell hE.tmp 2
            have HE := Lib.hid hE
            clear hE c0 c1 c2 c3 x0
            rcases hz with ⟨rfl, rfl⟩ | ⟨rfl, rfl⟩ | ⟨rfl, rfl⟩ | ⟨rfl, rfl⟩ | ⟨rfl, rfl⟩ | ⟨rfl, rfl⟩ | ⟨rfl, rfl⟩ | ⟨rfl, rfl⟩ | ⟨rfl, rfl⟩
            · have HGr := Lib.hid (HE.out.alloc (.cells #[.int .u8 ((t : Int) / 72057594037927936)] 5)).eg.grow
              have HB1 := Lib.hid (ob1 (w := wr2) (z := (t : Int) / 72057594037927936) (y := t / 72057594037927936 % 256) (by omega) (Nat.mod_lt _ (by decide)))
              have HLt := Lib.hid (HE.out.alloc (.cells #[.int .u8 ((t : Int) / 72057594037927936)] 5)).eg.lt
              go_wp2_with (at_builtin; refine wpList_appO rfl (.tmp 52) (.tmp 59) rfl (w.heap.size + 1) _ (EN + 0) 1 1 (some ⟨wr2.heap.size, 0, none⟩) G (fun _ => t / 72057594037927936 % 256) _ rfl HGr.out rfl (fun e => by cases e) HB1.out (by have := HLB.out; omega) HLt.out ?_)
              intro v3 w3 hG3 hg3 hat3
              have HE4 := Lib.hid ((HE.out.alloc (.cells #[.int .u8 ((t : Int) / 72057594037927936)] 5)).next (hG3.congr (catF_self (m := 1) fun i hi => by obtain rfl : i = 0 := (by omega); exact (HX8.out 0 72057594037927936 (by decide) (by decide)).symm)) hg3 (by simpa using hat3))
              clear hG3 hg3 hat3 HGr HB1 HLt y2
              go_wp2_with fail
              go_roundw
              case rel => exact ⟨1, 48, rfl, by decide, HE4.out⟩
              case measure => simp [intOf]
            · have HGr := Lib.hid (HE.out.alloc (.cells #[.int .u8 ((t : Int) / 281474976710656 % 256)] 5)).eg.grow
              have HB1 := Lib.hid (ob1 (w := wr2) (z := (t : Int) / 281474976710656 % 256) (y := t / 281474976710656 % 256) (by omega) (Nat.mod_lt _ (by decide)))
              have HLt := Lib.hid (HE.out.alloc (.cells #[.int .u8 ((t : Int) / 281474976710656 % 256)] 5)).eg.lt
              go_wp2_with (at_builtin; refine wpList_appO rfl (.tmp 52) (.tmp 59) rfl (w.heap.size + 1) _ (EN + 1) 1 1 (some ⟨wr2.heap.size, 0, none⟩) G (fun _ => t / 281474976710656 % 256) _ rfl HGr.out rfl (fun e => by cases e) HB1.out (by have := HLB.out; omega) HLt.out ?_)
              intro v3 w3 hG3 hg3 hat3
              have HE4 := Lib.hid ((HE.out.alloc (.cells #[.int .u8 ((t : Int) / 281474976710656 % 256)] 5)).next (hG3.congr (catF_self (m := 1) fun i hi => by obtain rfl : i = 0 := (by omega); exact (HX8.out 1 281474976710656 (by decide) (by decide)).symm)) hg3 (by simpa using hat3))
              clear hG3 hg3 hat3 HGr HB1 HLt y2
              go_wp2_with fail
              go_roundw
              case rel => exact ⟨2, 40, rfl, by decide, HE4.out⟩
              case measure => simp [intOf]
            · have HGr := Lib.hid (HE.out.alloc (.cells #[.int .u8 ((t : Int) / 1099511627776 % 256)] 5)).eg.grow
              have HB1 := Lib.hid (ob1 (w := wr2) (z := (t : Int) / 1099511627776 % 256) (y := t / 1099511627776 % 256) (by omega) (Nat.mod_lt _ (by decide)))
              have HLt := Lib.hid (HE.out.alloc (.cells #[.int .u8 ((t : Int) / 1099511627776 % 256)] 5)).eg.lt
              go_wp2_with (at_builtin; refine wpList_appO rfl (.tmp 52) (.tmp 59) rfl (w.heap.size + 1) _ (EN + 2) 1 1 (some ⟨wr2.heap.size, 0, none⟩) G (fun _ => t / 1099511627776 % 256) _ rfl HGr.out rfl (fun e => by cases e) HB1.out (by have := HLB.out; omega) HLt.out ?_)
              intro v3 w3 hG3 hg3 hat3
              have HE4 := Lib.hid ((HE.out.alloc (.cells #[.int .u8 ((t : Int) / 1099511627776 % 256)] 5)).next (hG3.congr (catF_self (m := 1) fun i hi => by obtain rfl : i = 0 := (by omega); exact (HX8.out 2 1099511627776 (by decide) (by decide)).symm)) hg3 (by simpa using hat3))
              clear hG3 hg3 hat3 HGr HB1 HLt y2
              go_wp2_with fail
              go_roundw
              case rel => exact ⟨3, 32, rfl, by decide, HE4.out⟩
              case measure => simp [intOf]
            · have HGr := Lib.hid (HE.out.alloc (.cells #[.int .u8 ((t : Int) / 4294967296 % 256)] 5)).eg.grow
              have HB1 := Lib.hid (ob1 (w := wr2) (z := (t : Int) / 4294967296 % 256) (y := t / 4294967296 % 256) (by omega) (Nat.mod_lt _ (by decide)))
              have HLt := Lib.hid (HE.out.alloc (.cells #[.int .u8 ((t : Int) / 4294967296 % 256)] 5)).eg.lt
              go_wp2_with (at_builtin; refine wpList_appO rfl (.tmp 52) (.tmp 59) rfl (w.heap.size + 1) _ (EN + 3) 1 1 (some ⟨wr2.heap.size, 0, none⟩) G (fun _ => t / 4294967296 % 256) _ rfl HGr.out rfl (fun e => by cases e) HB1.out (by have := HLB.out; omega) HLt.out ?_)
              intro v3 w3 hG3 hg3 hat3
              have HE4 := Lib.hid ((HE.out.alloc (.cells #[.int .u8 ((t : Int) / 4294967296 % 256)] 5)).next (hG3.congr (catF_self (m := 1) fun i hi => by obtain rfl : i = 0 := (by omega); exact (HX8.out 3 4294967296 (by decide) (by decide)).symm)) hg3 (by simpa using hat3))
              clear hG3 hg3 hat3 HGr HB1 HLt y2
              go_wp2_with fail
              go_roundw
              case rel => exact ⟨4, 24, rfl, by decide, HE4.out⟩
              case measure => simp [intOf]
            · have HGr := Lib.hid (HE.out.alloc (.cells #[.int .u8 ((t : Int) / 16777216 % 256)] 5)).eg.grow
              have HB1 := Lib.hid (ob1 (w := wr2) (z := (t : Int) / 16777216 % 256) (y := t / 16777216 % 256) (by omega) (Nat.mod_lt _ (by decide)))
              have HLt := Lib.hid (HE.out.alloc (.cells #[.int .u8 ((t : Int) / 16777216 % 256)] 5)).eg.lt
              go_wp2_with (at_builtin; refine wpList_appO rfl (.tmp 52) (.tmp 59) rfl (w.heap.size + 1) _ (EN + 4) 1 1 (some ⟨wr2.heap.size, 0, none⟩) G (fun _ => t / 16777216 % 256) _ rfl HGr.out rfl (fun e => by cases e) HB1.out (by have := HLB.out; omega) HLt.out ?_)
              intro v3 w3 hG3 hg3 hat3
              have HE4 := Lib.hid ((HE.out.alloc (.cells #[.int .u8 ((t : Int) / 16777216 % 256)] 5)).next (hG3.congr (catF_self (m := 1) fun i hi => by obtain rfl : i = 0 := (by omega); exact (HX8.out 4 16777216 (by decide) (by decide)).symm)) hg3 (by simpa using hat3))
              clear hG3 hg3 hat3 HGr HB1 HLt y2
              go_wp2_with fail
              go_roundw
              case rel => exact ⟨5, 16, rfl, by decide, HE4.out⟩
              case measure => simp [intOf]
            · have HGr := Lib.hid (HE.out.alloc (.cells #[.int .u8 ((t : Int) / 65536 % 256)] 5)).eg.grow
              have HB1 := Lib.hid (ob1 (w := wr2) (z := (t : Int) / 65536 % 256) (y := t / 65536 % 256) (by omega) (Nat.mod_lt _ (by decide)))
              have HLt := Lib.hid (HE.out.alloc (.cells #[.int .u8 ((t : Int) / 65536 % 256)] 5)).eg.lt
              go_wp2_with (at_builtin; refine wpList_appO rfl (.tmp 52) (.tmp 59) rfl (w.heap.size + 1) _ (EN + 5) 1 1 (some ⟨wr2.heap.size, 0, none⟩) G (fun _ => t / 65536 % 256) _ rfl HGr.out rfl (fun e => by cases e) HB1.out (by have := HLB.out; omega) HLt.out ?_)
              intro v3 w3 hG3 hg3 hat3
              have HE4 := Lib.hid ((HE.out.alloc (.cells #[.int .u8 ((t : Int) / 65536 % 256)] 5)).next (hG3.congr (catF_self (m := 1) fun i hi => by obtain rfl : i = 0 := (by omega); exact (HX8.out 5 65536 (by decide) (by decide)).symm)) hg3 (by simpa using hat3))
              clear hG3 hg3 hat3 HGr HB1 HLt y2
              go_wp2_with fail
              go_roundw
              case rel => exact ⟨6, 8, rfl, by decide, HE4.out⟩
              case measure => simp [intOf]
            · have HGr := Lib.hid (HE.out.alloc (.cells #[.int .u8 ((t : Int) / 256 % 256)] 5)).eg.grow
              have HB1 := Lib.hid (ob1 (w := wr2) (z := (t : Int) / 256 % 256) (y := t / 256 % 256) (by omega) (Nat.mod_lt _ (by decide)))
              have HLt := Lib.hid (HE.out.alloc (.cells #[.int .u8 ((t : Int) / 256 % 256)] 5)).eg.lt
              go_wp2_with (at_builtin; refine wpList_appO rfl (.tmp 52) (.tmp 59) rfl (w.heap.size + 1) _ (EN + 6) 1 1 (some ⟨wr2.heap.size, 0, none⟩) G (fun _ => t / 256 % 256) _ rfl HGr.out rfl (fun e => by cases e) HB1.out (by have := HLB.out; omega) HLt.out ?_)
              intro v3 w3 hG3 hg3 hat3
              have HE4 := Lib.hid ((HE.out.alloc (.cells #[.int .u8 ((t : Int) / 256 % 256)] 5)).next (hG3.congr (catF_self (m := 1) fun i hi => by obtain rfl : i = 0 := (by omega); exact (HX8.out 6 256 (by decide) (by decide)).symm)) hg3 (by simpa using hat3))
              clear hG3 hg3 hat3 HGr HB1 HLt y2
              go_wp2_with fail
              go_roundw
              case rel => exact ⟨7, 0, rfl, by decide, HE4.out⟩
              case measure => simp [intOf]
            · have HGr := Lib.hid (HE.out.alloc (.cells #[.int .u8 ((t : Int) % 256)] 5)).eg.grow
              have HB1 := Lib.hid (ob1 (w := wr2) (z := (t : Int) % 256) (y := t % 256) (by omega) (Nat.mod_lt _ (by decide)))
              have HLt := Lib.hid (HE.out.alloc (.cells #[.int .u8 ((t : Int) % 256)] 5)).eg.lt
              go_wp2_with (at_builtin; refine wpList_appO rfl (.tmp 52) (.tmp 59) rfl (w.heap.size + 1) _ (EN + 7) 1 1 (some ⟨wr2.heap.size, 0, none⟩) G (fun _ => t % 256) _ rfl HGr.out rfl (fun e => by cases e) HB1.out (by have := HLB.out; omega) HLt.out ?_)
              intro v3 w3 hG3 hg3 hat3
              have HE4 := Lib.hid ((HE.out.alloc (.cells #[.int .u8 ((t : Int) % 256)] 5)).next (hG3.congr (catF_self (m := 1) fun i hi => by obtain rfl : i = 0 := (by omega); have h := HX8.out 7 1 (by decide) (by decide); rw [Nat.div_one] at h; exact h.symm)) hg3 (by simpa using hat3))
              clear hG3 hg3 hat3 HGr HB1 HLt y2
              go_wp2_with fail
              go_roundw
              case rel => exact ⟨8, -8, rfl, by decide, HE4.out⟩
              case measure => simp [intOf]
            · have y1 : wr2.cell? ⟨wr1.heap.size, 1, none⟩ = some (.slice od len cap) := Blk.cell HE.out.tmp 1
              have y3 : wr2.cell? ⟨wr1.heap.size, 3, none⟩ = some (.int .i64 (S : Int)) := Blk.cell HE.out.tmp 3
              have hE8 : EH w w.heap.size #[.slice (some ⟨b, off, none⟩) n cp, .int .u32 (last : Int), .int .i64 (M : Int)] 73 wr1.heap.size #[.int .u32 (m : Int), .slice od len cap, .int .u64 (t : Int), .int .i64 (S : Int)] 89 (EN + 8) G u4 (wr2.alloc (.cells #[.int .u8 (S : Int), .int .u8 (len : Int)] 5)).drew := (HE.out.alloc _).drew
              have HB1 : Hid (Bytes (wr2.alloc (.cells #[.int .u8 (S : Int), .int .u8 (len : Int)] 5)).drew (some ⟨wr2.heap.size, 0, none⟩) 2 (two S len)) := Lib.hid (ob2 (w := wr2) (x := S) (y := len) (by omega) (by omega))
              have x1 : (wr2.alloc (.cells #[.int .u8 (S : Int), .int .u8 (len : Int)] 5)).drew.cell? ⟨wr1.heap.size, 1, none⟩ = some (.slice od len cap) := Blk.cell hE8.tmp 1
              have x3 : (wr2.alloc (.cells #[.int .u8 (S : Int), .int .u8 (len : Int)] 5)).drew.cell? ⟨wr1.heap.size, 3, none⟩ = some (.int .i64 (S : Int)) := Blk.cell hE8.tmp 3
              have HE8 := Lib.hid hE8
              have HGr := Lib.hid hE8.eg.grow
              have HLt := Lib.hid hE8.eg.lt
              have q1 : IntKind.u8.wrap (S : Int) = (S : Int) := by rw [IntKind.wrap_u8]; omega
              have q2 : IntKind.u8.wrap (len : Int) = (len : Int) := by rw [IntKind.wrap_u8]; omega
              clear y2 hE8
              go_wp2_with fail
              refine wp_region_held_drew (S := (fun w' => w'.cell? ⟨wr1.heap.size, 1, none⟩ = some (.slice od len cap) ∧ w'.cell? ⟨wr1.heap.size, 3, none⟩ = some (.int .i64 (S : Int)))) (by kernel_rfl) ?_ (fun hHeld => ?_)
              · (try dsimp only)
                go_keep
              refine wpAnyH_take (i := 0) (oi := { dst := some 61, op := Go.Op.move (Go.Operand.tmp 4), type := 31, pos := "ref.go:124", after := #[], guard := none }) (v := ?_) rfl (by kernel_rfl) (by kernel_rfl) (by kernel_rfl) (fun _ _ _ h => h) (Or.inl ⟨by rfl, ?_⟩) (by assumption) ?_
              rotate_left
              · intro w hSw
                (try dsimp only at hSw)
                go_simp
                (try with_reducible rfl)
              (try simp only [Act.put, List.setIfInBounds_toArray, List.set_cons_zero, List.set_cons_succ])
              refine wpAnyH_take (i := 1) (oi := { dst := some 62, op := Go.Op.fieldAddr 89 (Go.Operand.tmp 7) 3, type := 0, pos := "ref.go:124", after := #[], guard := none }) (v := ?_) rfl (by kernel_rfl) (by kernel_rfl) (by kernel_rfl) (fun _ _ _ h => h) (Or.inl ⟨by rfl, ?_⟩) (by assumption) ?_
              rotate_left
              · intro w hSw
                (try dsimp only at hSw)
                go_simp
                (try with_reducible rfl)
              (try simp only [Act.put, List.setIfInBounds_toArray, List.set_cons_zero, List.set_cons_succ])
              refine wpAnyH_take (i := 2) (oi := { dst := some 63, op := Go.Op.load 3 (Go.Operand.tmp 62), type := 3, pos := "ref.go:124", after := #[{ on := 1, ground := Go.Ground.data }], guard := none }) (v := ?_) rfl (by kernel_rfl) (by kernel_rfl) (by kernel_rfl) (fun _ _ _ h => h) (Or.inl ⟨by rfl, ?_⟩) (by assumption) ?_
              rotate_left
              · intro w hSw
                (try dsimp only at hSw)
                go_simp
                (try with_reducible rfl)
              (try simp only [Act.put, List.setIfInBounds_toArray, List.set_cons_zero, List.set_cons_succ])
              refine wpAnyH_take (i := 3) (oi := { dst := some 64, op := Go.Op.convert 3 5 (Go.Operand.tmp 63), type := 5, pos := "ref.go:124", after := #[{ on := 2, ground := Go.Ground.data }], guard := none }) (v := ?_) rfl (by kernel_rfl) (by kernel_rfl) (by kernel_rfl) (fun _ _ _ h => h) (Or.inl ⟨by rfl, ?_⟩) (by assumption) ?_
              rotate_left
              · intro w hSw
                (try dsimp only at hSw)
                go_simp
                (try with_reducible rfl)
              (try simp only [Act.put, List.setIfInBounds_toArray, List.set_cons_zero, List.set_cons_succ])
              refine wpAnyH_take (i := 4) (oi := { dst := some 65, op := Go.Op.fieldAddr 89 (Go.Operand.tmp 7) 1, type := 0, pos := "ref.go:124", after := #[], guard := none }) (v := ?_) rfl (by kernel_rfl) (by kernel_rfl) (by kernel_rfl) (fun _ _ _ h => h) (Or.inl ⟨by rfl, ?_⟩) (by assumption) ?_
              rotate_left
              · intro w hSw
                (try dsimp only at hSw)
                go_simp
                (try with_reducible rfl)
              (try simp only [Act.put, List.setIfInBounds_toArray, List.set_cons_zero, List.set_cons_succ])
              refine wpAnyH_take (i := 5) (oi := { dst := some 66, op := Go.Op.load 31 (Go.Operand.tmp 65), type := 31, pos := "ref.go:124", after := #[{ on := 4, ground := Go.Ground.data }], guard := none }) (v := ?_) rfl (by kernel_rfl) (by kernel_rfl) (by kernel_rfl) (fun _ _ _ h => h) (Or.inl ⟨by rfl, ?_⟩) (by assumption) ?_
              rotate_left
              · intro w hSw
                (try dsimp only at hSw)
                go_simp
                (try with_reducible rfl)
              (try simp only [Act.put, List.setIfInBounds_toArray, List.set_cons_zero, List.set_cons_succ])
              refine wpAnyH_take (i := 6) (oi := { dst := some 67, op := Go.Op.call { callee := Go.Callee.builtin Go.Builtin.len, args := #[Go.Operand.tmp 66], argTypes := #[31] }, type := 3, pos := "ref.go:124", after := #[{ on := 5, ground := Go.Ground.data }], guard := none }) (v := ?_) rfl (by kernel_rfl) (by kernel_rfl) (by kernel_rfl) (fun _ _ _ h => h) (Or.inl ⟨by rfl, ?_⟩) (by assumption) ?_
              rotate_left
              · intro w hSw
                (try dsimp only at hSw)
                go_simp
                (try with_reducible rfl)
              (try simp only [Act.put, List.setIfInBounds_toArray, List.set_cons_zero, List.set_cons_succ])
              refine wpAnyH_take (i := 7) (oi := { dst := some 68, op := Go.Op.convert 3 5 (Go.Operand.tmp 67), type := 5, pos := "ref.go:124", after := #[{ on := 6, ground := Go.Ground.data }], guard := none }) (v := ?_) rfl (by kernel_rfl) (by kernel_rfl) (by kernel_rfl) (fun _ _ _ h => h) (Or.inl ⟨by rfl, ?_⟩) (by assumption) ?_
              rotate_left
              · intro w hSw
                (try dsimp only at hSw)
                go_simp
                (try with_reducible rfl)
              (try simp only [Act.put, List.setIfInBounds_toArray, List.set_cons_zero, List.set_cons_succ])
              refine wpAnyH_take (i := 10) (oi := { dst := some 71, op := Go.Op.fieldAddr 89 (Go.Operand.tmp 7) 1, type := 0, pos := "ref.go:124", after := #[], guard := none }) (v := ?_) rfl (by kernel_rfl) (by kernel_rfl) (by kernel_rfl) (fun _ _ _ h => h) (Or.inl ⟨by rfl, ?_⟩) (by assumption) ?_
              rotate_left
              · intro w hSw
                (try dsimp only at hSw)
                go_simp
                (try with_reducible rfl)
              (try simp only [Act.put, List.setIfInBounds_toArray, List.set_cons_zero, List.set_cons_succ])
              refine wpAnyH_take (i := 11) (oi := { dst := some 72, op := Go.Op.load 31 (Go.Operand.tmp 71), type := 31, pos := "ref.go:124", after := #[{ on := 10, ground := Go.Ground.data }], guard := none }) (v := ?_) rfl (by kernel_rfl) (by kernel_rfl) (by kernel_rfl) (fun _ _ _ h => h) (Or.inl ⟨by rfl, ?_⟩) (by assumption) ?_
              rotate_left
              · intro w hSw
                (try dsimp only at hSw)
                go_simp
                (try with_reducible rfl)
              (try simp only [Act.put, List.setIfInBounds_toArray, List.set_cons_zero, List.set_cons_succ])
              refine wpAnyH_ready (rs := [8]) (by kernel_rfl) (by simp) ?_
              refine AllReadyH.cons (o := { dst := some 69, op := Go.Op.buildSlice 31 2 #[(0, Go.Operand.tmp 64), (1, Go.Operand.tmp 68)], type := 31, pos := "ref.go:124", after := #[{ on := 3, ground := Go.Ground.data }, { on := 7, ground := Go.Ground.data }], guard := none }) rfl (fun K hK => ?_) AllReadyH.nil
              go_simp
              skip
              (try go_wp2_with fail)
              refine hK.out _ _ ?_ (fun hHeld => ?_)
              · (try dsimp only)
                go_keep
              clear hK K
              (try simp only [Act.put, List.setIfInBounds_toArray, List.set_cons_zero, List.set_cons_succ])
              refine wpAnyH_ready (rs := [9]) (by kernel_rfl) (by simp) ?_
              refine AllReadyH.cons (o := { dst := some 70, op := Go.Op.call { callee := Go.Callee.builtin Go.Builtin.append, args := #[Go.Operand.tmp 61, Go.Operand.tmp 69], argTypes := #[31, 31] }, type := 31, pos := "ref.go:124", after := #[{ on := 0, ground := Go.Ground.data }, { on := 8, ground := Go.Ground.data }], guard := none }) rfl (fun K hK => ?_) AllReadyH.nil
              (refine step_appO rfl (.tmp 61) (.tmp 69) (by rfl) (w.heap.size + 1) _ (EN + 8) 2 2 (some ⟨wr2.heap.size, 0, none⟩) G (two S len) _ (by rfl) HGr.out (by rfl) (fun e => by cases e) HB1.out (by have := HLB.out; omega) HLt.out ?_; intro v3 w3 hG3 hg3 hat3; have HE4 := Lib.hid (HE8.out.next (hG3.congr (catF_self (m := 2) fun i hi => (by rcases (show i = 0 ∨ i = 1 by omega) with rfl | rfl; exact HXs.out.symm; exact HXl.out.symm))) hg3 hat3); have z1 : w3.cell? ⟨wr1.heap.size, 1, none⟩ = some (.slice od len cap) := Blk.cell HE4.out.tmp 1; have z3 : w3.cell? ⟨wr1.heap.size, 3, none⟩ = some (.int .i64 (S : Int)) := Blk.cell HE4.out.tmp 3; have HG4 := Lib.hid HE4.out.eg.grow; have HB4 := Lib.hid (HB.out.later HE4.out.eg.bel); have HL4 := Lib.hid HE4.out.eg.lt; clear hG3 hg3 hat3 HGr HB1 HLt y1 y3 x1 x3)
              refine hK.out _ _ ?_ (fun hHeld => ?_)
              · (try dsimp only)
                go_keep
              clear hK K
              (try simp only [Act.put, List.setIfInBounds_toArray, List.set_cons_zero, List.set_cons_succ])
              refine wpAnyH_ready (rs := [12]) (by kernel_rfl) (by simp) ?_
              refine AllReadyH.cons (o := { dst := some 73, op := Go.Op.call { callee := Go.Callee.builtin Go.Builtin.append, args := #[Go.Operand.tmp 70, Go.Operand.tmp 72], argTypes := #[31, 31] }, type := 31, pos := "ref.go:124", after := #[{ on := 9, ground := Go.Ground.data }, { on := 11, ground := Go.Ground.data }, { on := 9, ground := Go.Ground.chain }], guard := none }) rfl (fun K hK => ?_) AllReadyH.nil
              (refine step_appO rfl (.tmp 70) (.tmp 72) (by rfl) (w.heap.size + 1) _ (EN + 8 + 2) len cap od G f _ (by rfl) HG4.out (by rfl) HNO.out HB4.out (by have := HLB.out; have := HL1.out; omega) HL4.out ?_; intro v5 w5 hG5 hg5 hat5; have hH5 := HE4.out.next (hG5.congr (catF_self (m := len) fun i hi => (by rw [show EN + 8 + 2 + i = EN + (10 + i) by omega]; exact (HXd.out i hi).symm))) hg5 hat5; have t1' : w5.cell? ⟨wr1.heap.size, 1, none⟩ = some (.slice od len cap) := Blk.cell hH5.tmp 1; have t3' : w5.cell? ⟨wr1.heap.size, 3, none⟩ = some (.int .i64 (S : Int)) := Blk.cell hH5.tmp 3; have hE5 := hH5.eg; rw [show EN + 8 + 2 + len = encL V (k + 1) by rw [HXn.out]; omega, ← HGG.out] at hE5; have HE5 := Lib.hid hE5; clear hG5 hg5 hat5 hE5 hH5 HG4 HB4 HL4 z1 z3)
              refine hK.out _ _ ?_ (fun hHeld => ?_)
              · (try dsimp only)
                go_keep
              clear hK K
              (try simp only [Act.put, List.setIfInBounds_toArray, List.set_cons_zero, List.set_cons_succ])
              refine wpAnyH_take (i := 13) (oi := { dst := some 4, op := Go.Op.assign (Go.Operand.tmp 73), type := 31, pos := "ref.go:124", after := #[{ on := 12, ground := Go.Ground.data }, { on := 12, ground := Go.Ground.chain }, { on := 0, ground := Go.Ground.phase }, { on := 1, ground := Go.Ground.phase }, { on := 2, ground := Go.Ground.phase }, { on := 3, ground := Go.Ground.phase }, { on := 4, ground := Go.Ground.phase }, { on := 5, ground := Go.Ground.phase }, { on := 6, ground := Go.Ground.phase }, { on := 7, ground := Go.Ground.phase }, { on := 8, ground := Go.Ground.phase }, { on := 9, ground := Go.Ground.phase }, { on := 10, ground := Go.Ground.phase }, { on := 11, ground := Go.Ground.phase }, { on := 12, ground := Go.Ground.phase }], guard := none }) (v := ?_) rfl (by kernel_rfl) (by kernel_rfl) (by kernel_rfl) (fun _ _ _ h => h) (Or.inl ⟨by rfl, ?_⟩) (by assumption) ?_
              rotate_left
              · intro w hSw
                (try dsimp only at hSw)
                go_simp
                (try with_reducible rfl)
              (try simp only [Act.put, List.setIfInBounds_toArray, List.set_cons_zero, List.set_cons_succ])
              refine wpAnyH_done (by kernel_rfl) ?_ _
              clear t1' t3' q1 q2
              go_wp2_with fail
              go_roundw
              case rel => exact ⟨k + 1, by omega, by go_num, HE5.out⟩
              case measure => simp [intOf]; omega
        · obtain rfl : k = n := by omega
          have HE := Lib.hid hE
          clear hE hlt
          go_wp2_with fail
          go_ret2
          exact ⟨_, rfl, HE.out⟩
end Go.Proofs.YtkaddilgegimjaaDoor
