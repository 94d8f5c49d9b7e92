/- EngineKeeps: what each step makes of the state. -/
import Derived.Test.YtkaddilgegimjaaDoorEkA
import Derived.Test.YtkaddilgegimjaaDoorEs6
namespace Go.Proofs.YtkaddilgegimjaaDoor
set_option linter.unusedVariables false
set_option linter.unusedSimpArgs false
open Go.RowKit

theorem sec_num {n d : Nat} {M : Int} {V : Nat → Ver} (h : SecOk n d M V) {i : Nat} (hi : i < n) : (V i).n + n = d + 1 + i ∧ n ≤ d := ⟨(h.2 i hi).1, h.1.2.2.2.2⟩
theorem cut_sec {n last : Nat} {max : Int} {V : Nat → Ver} {i : Nat} (h : SecOk n last max V) : SecOk n last max (cutV (setV V i 2) i) := by
  refine ⟨h.1, fun q hq => ?_⟩
  have h3 := h.2 q hq
  unfold cutV setV
  by_cases e : q = i
  · subst e
    simp only [if_pos]
    exact ⟨h3.1, Nat.zero_le _, (show (0 : Int) ≤ 2 by decide), (show (2 : Int) ≤ 2 by decide), fun _ => rfl⟩
  · rw [if_neg e, if_neg e]; exact h3
theorem KM.set {n d : Nat} {M : Int} {V : Nat → Ver} {D : Nat → ByteArray} {st : Nat → Int} (h : KM n d V D st) (hS : SecOk n d M V) {i q : Nat} (hi : i < n) (hq : (V i).n = q + 1) {s : Int} (h2 : (V i).st ≠ 2) : KM n d (setV V i s) D (setS st q s) := by
  obtain ⟨hk, hz⟩ := h
  have ni := sec_num hS hi
  refine ⟨fun j hj => ?_, fun k hkd => ?_⟩
  · have nj := sec_num hS hj
    have kj := hk j hj
    unfold setV setS
    by_cases e : j = i
    · subst e
      simp only [if_pos]
      refine ⟨by rw [if_pos (by omega)], fun _ => kj.2 h2⟩
    · rw [if_neg e, if_neg (by omega)]; exact kj
  · unfold setS; rw [if_neg (by omega)]; exact hz k hkd
theorem KM.cut {n d : Nat} {M : Int} {V : Nat → Ver} {D : Nat → ByteArray} {st : Nat → Int} (h : KM n d V D st) (hS : SecOk n d M V) {i q : Nat} (hi : i < n) (hq : (V i).n = q + 1) : KM n d (cutV (setV V i 2) i) D (setS st q 2) := by
  obtain ⟨hk, hz⟩ := h
  have ni := sec_num hS hi
  refine ⟨fun j hj => ?_, fun k hkd => ?_⟩
  · have nj := sec_num hS hj
    have kj := hk j hj
    unfold cutV setV setS
    by_cases e : j = i
    · subst e
      simp only [if_pos]
      exact ⟨by rw [if_pos (by omega)], fun h => absurd rfl h⟩
    · rw [if_neg e, if_neg e, if_neg (by omega)]; exact kj
  · unfold setS; rw [if_neg (by omega)]; exact hz k hkd
theorem KM.put {n d M : Nat} {V : Nat → Ver} {D : Nat → ByteArray} {st : Nat → Int} {dl now : Nat} {df : Nat → Nat} (h : KM n d V D st) (hS : SecOk n d M V) : KM (putN n M) (d + 1) (putV V (fromN n M) (putN n M - 1) ⟨d + 1, dl, df, now, 0⟩) (addD D d (strF dl df)) st := by
  obtain ⟨hk, hz⟩ := h
  have h1 := hS.1.1
  refine ⟨fun j hj => ?_, fun k hkd => hz k (by omega)⟩
  unfold putV addD
  by_cases e : j = putN n M - 1
  · rw [if_pos e]
    exact ⟨hz d (Nat.le_refl _), fun _ => by simp⟩
  · rw [if_neg e]
    have hlt : j + fromN n M < n := by
      unfold putN at hj e
      unfold fromN
      by_cases hx : (n : Int) = M
      · rw [if_pos hx] at hj e; rw [if_pos hx]; omega
      · rw [if_neg hx] at hj e; rw [if_neg hx]; omega
    have kj := hk _ hlt
    have nj := sec_num hS hlt
    exact ⟨kj.1, fun h => by rw [if_neg (by omega)]; exact kj.2 h⟩
theorem put_min {n d M : Nat} (h : n = min d M) : putN n M = min (d + 1) M := by
  unfold putN
  by_cases hx : (n : Int) = M
  · rw [if_pos hx]; omega
  · rw [if_neg hx]; omega

/-- Three cells stored into a block. -/
def set3 (w : World) (b : Nat) (x y z : Value) : World := ((w.setCell ⟨b, 0, none⟩ x).setCell ⟨b, 1, none⟩ y).setCell ⟨b, 2, none⟩ z
theorem set3_own (w : World) (b : Nat) (x y z : Value) : Own b w (set3 w b x y z) := (((Own.refl b w).set 0 x).set 1 y).set 2 z
theorem set3_size (w : World) (b : Nat) (x y z : Value) : (set3 w b x y z).heap.size = w.heap.size := by simp [set3, World.setCell]
theorem set3_blk {w : World} {b : Nat} {a c e x y z : Value} {t : TypeId} (h : Blk w b #[a, c, e] t) : Blk (set3 w b x y z) b #[x, y, z] t := by
  have := ((h.set 0 x).set 1 y).set 2 z
  simpa [set3] using this
theorem no_u8_s {n c : Nat} {a : Option Addr} {x y : Int} : ∀ (j : Nat) (z : Int), (#[Value.slice a n c, .int .u32 x, .int .i64 y] : Array Value)[j]? ≠ some (Value.int .u8 z) := no_u8_3
theorem GV.set3_ne {w : World} {base n m c : Nat} {v : Value} {V : Nat → Ver} {b : Nat} {a : Option Addr} {x y : Int} {t : TypeId} {a' : Option Addr} {m' c' : Nat} {x' y' : Int} (h : GV w base v n V) (hB : Blk w b #[.slice a m c, .int .u32 x, .int .i64 y] t) (hb : v.ownBlock ≠ some b) : GV (set3 w b (.slice a' m' c') (.int .u32 x') (.int .i64 y')) base v n V := by
  have g1 := h.set_ne (k := 0) (x := .slice a' m' c') hB no_u8_3 hb
  have b1 := hB.set 0 (.slice a' m' c')
  have g2 := g1.set_ne (k := 1) (x := .int .u32 x') b1 (by simpa using no_u8_3 (a := a') (n := m') (c := c') (x := x) (y := y)) hb
  have b2 := b1.set 1 (.int .u32 x')
  exact g2.set_ne (k := 2) (x := .int .i64 y') b2 (by simpa using no_u8_3 (a := a') (n := m') (c := c') (x := x') (y := y)) hb

/-- The secret's box has what another box had. -/
theorem KS.move {w0 w : World} {bs bt ba M d n m c : Nat} {dv : Value} {D : Nat → ByteArray} {st : Nat → Int} {V : Nat → Ver} {a o : Option Addr} {x y : Int} {cap : Nat} (h : KS w0 bt ba M d dv D st n (.slice o n cap) V w) (hC : Blk w bs #[.slice a m c, .int .u32 x, .int .i64 y] 79) (hlt : bs < bt) (hdv : dv.ownBlock ≠ some bs) (hw : w0.heap.size ≤ bs) (hne : bs ≠ ba) :
    KS w0 bs ba M d dv D st n (.slice o n cap) V (set3 w bs (.slice o n cap) (.int .u32 (d : Int)) (.int .i64 (M : Int))) := by
  obtain ⟨g1, g2, g2', g3, g4, g5, ⟨b1, g6, g7, g7', g8⟩, ⟨b2, g9, g10, g11, g11', g12⟩, r⟩ := h
  have hO := set3_own w bs (.slice o n cap) (.int .u32 (d : Int)) (.int .i64 (M : Int))
  have hs : (set3 w bs (.slice o n cap) (.int .u32 (d : Int)) (.int .i64 (M : Int))).heap.size = w.heap.size := set3_size _ _ _ _ _
  refine ⟨g1.own hO hw, g2, hw, hne, set3_blk hC, g5.own hO (Ne.symm hne), ⟨b1, by omega, g7, by omega, g8.set3_ne hC fun e => ?_⟩, ⟨b2, g9, g10, by omega, hdv, g12.own hO hdv⟩, r⟩
  have := (g8.ownb bs e).1
  omega

/-- Behind a call that made the secret anew, stored into another box, and a state that was stored. -/
theorem KS.changed {w0 W w1 : World} {bs bt ba M d n m c n' cap : Nat} {dv sv : Value} {D : Nat → ByteArray} {st : Nat → Int} {V V' : Nat → Ver} {a o : Option Addr} {x y : Int} {q : Nat} {s : Int} (h : KS w0 bs ba M d dv D st n sv V W) (hT : Blk W bt #[.slice a m c, .int .u32 x, .int .i64 y] 79) (h1 : bs < bt) (h2 : ba ≠ bt) (h3 : dv.ownBlock ≠ some bt)
    (hG : GV w1 W.heap.size (.slice o n' cap) n' V') (hb : Below W.heap.size W w1) (hS : SecOk n' d M V') (hm : n' = min d M) (hK : KM n' d V' D (setS st q s)) (hq : q < 64) :
    KS w0 bt ba M d dv D (setS st q s) n' (.slice o n' cap) V' ((set3 w1 bt (.slice o n' cap) (.int .u32 (d : Int)) (.int .i64 (M : Int))).setCell ⟨ba, q, none⟩ (.int .i64 s)) := by
  obtain ⟨g1, g2, g2', g3, g4, g5, ⟨b1, g6, g7, g7', g8⟩, ⟨b2, g9, g10, g11, g11', g12⟩, r⟩ := h
  have hO := set3_own w1 bt (.slice o n' cap) (.int .u32 (d : Int)) (.int .i64 (M : Int))
  have hs : (set3 w1 bt (.slice o n' cap) (.int .u32 (d : Int)) (.int .i64 (M : Int))).heap.size = w1.heap.size := set3_size _ _ _ _ _
  have hT1 := hT.below hb hT.lt
  have hlt := hT.lt
  have hal := g5.lt
  have hsz := hb.size
  have hG2 : GV (set3 w1 bt (.slice o n' cap) (.int .u32 (d : Int)) (.int .i64 (M : Int))) W.heap.size (.slice o n' cap) n' V' := hG.set3_ne hT1 fun e => by
    have := (hG.ownb bt e).1; omega
  have hst : StA (set3 w1 bt (.slice o n' cap) (.int .u32 (d : Int)) (.int .i64 (M : Int))) ba st := (g5.later hb).own hO h2
  have hDS := (g12.later hb).own hO h3
  have hd2 : dv.ownBlock ≠ some ba := fun e => by have := (g12.ownb ba e).1; omega
  obtain ⟨C, t, hBa, hnb⟩ := hst.nob
  have hO2 : Own ba _ ((set3 w1 bt (.slice o n' cap) (.int .u32 (d : Int)) (.int .i64 (M : Int))).setCell ⟨ba, q, none⟩ (.int .i64 s)) := (Own.refl ba _).set q _
  refine ⟨((g1.step hb).own hO (by omega)).own hO2 g2, g2, by omega, Ne.symm h2, hO2.blk (set3_blk hT1) (Ne.symm h2), hst.set hq s, ⟨W.heap.size, hlt, hal, ?_, hG2.set_ne hBa hnb fun e => ?_⟩, ⟨b2, g9, g10, ?_, h3, hDS.own hO2 hd2⟩, hS, hm, hK⟩
  · simp [World.setCell, hs]; omega
  · have := (hG.ownb ba e).1; omega
  · simp [World.setCell, hs]; omega

/-- Behind Put, stored into another box, and a string behind the others. -/
theorem KS.putted {w0 W w1 : World} {bs bt ba M d n m c n' cap dl now : Nat} {df : Nat → Nat} {dv sv : Value} {D : Nat → ByteArray} {st : Nat → Int} {V V' : Nat → Ver} {a o : Option Addr} {x y : Int} {str : ByteArray} (h : KS w0 bs ba M d dv D st n sv V W) (hT : Blk W bt #[.slice a m c, .int .u32 x, .int .i64 y] 79) (h1 : bs < bt) (h2 : ba ≠ bt) (h3 : dv.ownBlock ≠ some bt)
    (hG : GV w1 W.heap.size (.slice o n' cap) n' V') (hb : Below W.heap.size W w1) (hS : SecOk n' (d + 1) M V') (hm : n' = min (d + 1) M) (hK : KM n' (d + 1) V' (addD D d str) st) :
    (∃ base, base ≤ ((set3 w1 bt (.slice o n' cap) (.int .u32 ((d + 1 : Nat) : Int)) (.int .i64 (M : Int))).alloc (.cells #[.string str] 9)).heap.size ∧ DS ((set3 w1 bt (.slice o n' cap) (.int .u32 ((d + 1 : Nat) : Int)) (.int .i64 (M : Int))).alloc (.cells #[.string str] 9)) base dv d D ∧
      ∀ dv' w3, DS w3 base dv' (d + 1) (addD D d str) → ((set3 w1 bt (.slice o n' cap) (.int .u32 ((d + 1 : Nat) : Int)) (.int .i64 (M : Int))).alloc (.cells #[.string str] 9)).grownBy w3 dv.ownBlock → (dv'.ownBlock = dv.ownBlock ∨ dv'.ownBlock = some ((set3 w1 bt (.slice o n' cap) (.int .u32 ((d + 1 : Nat) : Int)) (.int .i64 (M : Int))).alloc (.cells #[.string str] 9)).heap.size) →
        KS w0 bt ba M (d + 1) dv' (addD D d str) st n' (.slice o n' cap) V' w3 ∧ Blk w3 bs #[sv, .int .u32 (d : Int), .int .i64 (M : Int)] 79 ∧ dv'.ownBlock ≠ some bs) := by
  obtain ⟨g1, g2, g2', g3, g4, g5, ⟨b1, g6, g7, g7', g8⟩, ⟨b2, g9, g10, g11, g11', g12⟩, r⟩ := h
  obtain ⟨w2, hw2⟩ : ∃ w2, set3 w1 bt (.slice o n' cap) (.int .u32 ((d + 1 : Nat) : Int)) (.int .i64 (M : Int)) = w2 := ⟨_, rfl⟩
  have hO : Own bt w1 w2 := hw2 ▸ set3_own w1 bt (.slice o n' cap) (.int .u32 ((d + 1 : Nat) : Int)) (.int .i64 (M : Int))
  have hs : w2.heap.size = w1.heap.size := hw2 ▸ set3_size _ _ _ _ _
  have hT1 := hT.below hb hT.lt
  have hlt := hT.lt
  have hal := g5.lt
  have hbl := g4.lt
  have hsz := hb.size
  have hG2 : GV w2 W.heap.size (.slice o n' cap) n' V' := hw2 ▸ hG.set3_ne hT1 fun e => by
    have := (hG.ownb bt e).1; omega
  have hst : StA w2 ba st := (g5.later hb).own hO h2
  have hDS := (g12.later hb).own hO h3
  have hTb : Blk w2 bt #[.slice o n' cap, .int .u32 ((d + 1 : Nat) : Int), .int .i64 (M : Int)] 79 := hw2 ▸ set3_blk hT1
  have hSb : Blk w2 bs #[sv, .int .u32 (d : Int), .int .i64 (M : Int)] 79 := hO.blk (g4.below hb hbl) (by omega)
  rw [hw2]
  have hA : Below w2.heap.size w2 (w2.alloc (.cells #[.string str] 9)) := (Below.refl _ _).alloc (Nat.le_refl _) _
  have hsA : (w2.alloc (.cells #[.string str] 9)).heap.size = w2.heap.size + 1 := by simp
  have hDA := hDS.later hA
  refine ⟨b2, by omega, hDA, fun dv' w3 hD3 hg hat => ?_⟩
  have hdb := g12.ownb
  have hdl : ∀ q, dv.ownBlock = some q → q < W.heap.size ∧ w0.heap.size ≤ q := fun q e => ⟨(hdb q e).2, by have := (hdb q e).1; omega⟩
  have hd2 : dv.ownBlock ≠ some ba := fun e => by have := (hdb ba e).1; omega
  have hgs := hg.size
  have hB3 : Below w0.heap.size w2 w3 := (hA.mono (by have := g1.bel.size; omega)).grown hg (by have := g1.bel.size; omega) fun q e => (hdl q e).2
  obtain ⟨C, t, hBa, hC1, hC2⟩ := hst.later hA
  refine ⟨⟨((g1.step hb).own hO (by omega)).at hB3, g2, by omega, Ne.symm h2, (hTb.alloc _).grown hg h3, ⟨C, t, hBa.grown hg hd2, hC1, hC2⟩, ⟨W.heap.size, hlt, hal, by omega, (hG2.later hA).grown hDA hg fun q hq e => ?_⟩, ⟨b2, g9, g10, by omega, ?_, hD3⟩, hS, hm, hK⟩, (hSb.alloc _).grown hg g11', ?_⟩
  · have := (hG.ownb q hq).1
    have := (hdl q e).1
    omega
  · rcases hat with e | e
    · rw [e]; exact h3
    · rw [e]; intro e'; cases e'; omega
  · rcases hat with e | e
    · rw [e]; exact g11'
    · rw [e]; intro e'; cases e'; omega

structure AskD where
  len : Nat
  f : Nat → Nat
  cas : Int
  n : Nat
  now : Nat
/-- n asks lie behind an address. -/
def Asks (w : World) (oa : Option Addr) (n : Nat) (A : Nat → AskD) : Prop := ∀ i, i < n → ∃ b off od cap, oa = some ⟨b, off, none⟩ ∧ Bytes w od (A i).len (A i).f ∧ (od = none → (A i).len = 0) ∧
  w.cell? ⟨b, off + i * 4, none⟩ = some (.slice od (A i).len cap) ∧ w.cell? ⟨b, off + i * 4 + 1, none⟩ = some (.int .i64 (A i).cas) ∧ w.cell? ⟨b, off + i * 4 + 2, none⟩ = some (.int .u32 ((A i).n : Int)) ∧ w.cell? ⟨b, off + i * 4 + 3, none⟩ = some (.int .u64 ((A i).now : Int))
theorem Asks.later {w w' : World} {oa : Option Addr} {n : Nat} {A : Nat → AskD} (h : Asks w oa n A) (hb : Below w.heap.size w w') : Asks w' oa n A := fun i hi => by
  obtain ⟨b, off, od, cap, h1, h2, h3, c0, c1, c2, c3⟩ := h i hi
  exact ⟨b, off, od, cap, h1, h2.later hb, h3, cell_below hb c0, cell_below hb c1, cell_below hb c2, cell_below hb c3⟩
end Go.Proofs.YtkaddilgegimjaaDoor
