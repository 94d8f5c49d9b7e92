/- GCM: the program's answers beside the document's. GcmExact: the walk. -/
import Derived.Test.YtkcbckafibjflaaGreatDoorGeB
import Derived.Test.YtkcbckafibjflaaGreatDoorGcS
import Derived.Deep.DeepCutAuto
namespace Go.Proofs.YtkcbckafibjflaaGreatDoor
set_option linter.unusedVariables false
set_option linter.unusedSimpArgs false
open Go.RowKit
def SV (w : World) (bx : Nat) (v : Value) (S : ByteArray) : Prop := ∃ o m c F, v = .slice o m c ∧ Bytes w o m F ∧ (o = none → m = 0) ∧ strF m F = S ∧ ∀ x, o = some x → 0 < m → x.block ≠ bx
theorem SV.own {w w' : World} {bx : Nat} {v : Value} {S : ByteArray} (h : SV w bx v S) (hO : Own bx w w') : SV w' bx v S := by
  obtain ⟨o, m, c, F, h1, h2, h3, h4, h5⟩ := h
  exact ⟨o, m, c, F, h1, h2.own hO h5, h3, h4, h5⟩
theorem SV.later {w w' : World} {bx : Nat} {v : Value} {S : ByteArray} (h : SV w bx v S) (hb : Below w.heap.size w w') : SV w' bx v S := by
  obtain ⟨o, m, c, F, h1, h2, h3, h4, h5⟩ := h
  exact ⟨o, m, c, F, h1, h2.later hb, h3, h4, h5⟩
theorem SV.conv {w : World} {bx : Nat} {v : Value} {S : ByteArray} (h : SV w bx v S) : (convert 22 9 v).run Tryz.prog w = .ok (.string S) w := by
  obtain ⟨o, m, c, F, h1, h2, h3, h4, h5⟩ := h
  rw [h1, ← h4]; exact conv_any h2 h3
theorem SV.none (w : World) (bx : Nat) : SV w bx (.slice none 0 0) ⟨#[]⟩ := ⟨_, 0, 0, fun _ => 0, rfl, fun k hk => absurd hk (Nat.not_lt_zero _), fun _ => rfl, rfl, fun x hx => by cases hx⟩
theorem SV.grow {w : World} {bx base n : Nat} {v : Value} {f : Nat → Nat} (h : Grow w base v n f) (hf : ∀ i, i < n → f i < 256) (hb : bx < base) : SV w bx v (strF n f) := by
  obtain ⟨o, c, hv, hB, _, hno⟩ := h.bytesC hf
  refine ⟨o, n, c, f, hv, hB, hno, rfl, fun x hx h0 => ?_⟩
  have h1 := (h.lt x.block (by rw [hv, hx]; rfl)).1
  omega
def Er (v : Value) (k : Nat) : Prop := (v = .nilIface ∧ k = 0) ∨ (v = .iface 47 (.int .i64 (k : Int)) ∧ 0 < k)
theorem num_er {v : Value} {k : Nat} (h : Er v k) (w : World) (hg : Handle w) : Calls Tryz.prog 7 #[v] w fun e w' => e = .returned (.int .i64 (k : Int)) ∧ Below w.heap.size w w' := by
  rcases h with ⟨rfl, rfl⟩ | ⟨rfl, _⟩
  · exact num_nil w
  · exact num_err _ w hg
/-- The program's answer. -/
def RP (bx g kb : Nat) (W : Nat → Nat) (S : ByteArray) (k : Nat) (A : World) (e : Ending) (w' : World) : Prop := ∃ v ev, e = .returned (.tuple #[v, ev]) ∧ SV w' bx v S ∧ Er ev k ∧ KG w' g kb bx W ∧ Own bx A w'
/-- The document's answer. -/
def RD (bx : Nat) (S : ByteArray) (k : Nat) (A : World) (e : Ending) (w' : World) : Prop := ∃ v, e = .returned (.tuple #[v, .int .i64 (k : Int)]) ∧ SV w' bx v S ∧ Below A.heap.size A w'
/-- What Opens answers. -/
def RO (bx g kb : Nat) (W : Nat → Nat) (k : Nat) (A : World) (e : Ending) (w' : World) : Prop := e = .returned (.bool (decide (k = 0))) ∧ KG w' g kb bx W ∧ Own bx A w'
theorem RP.bad {f : FuncId} {args : Array Value} {bx g kb k : Nat} {W : Nat → Nat} {A : World} (hK : KG A g kb bx W) (hk : 0 < k) (h : Calls Tryz.prog f args A fun e w' => e = .returned (.tuple #[.slice none 0 0, .iface 47 (.int .i64 (k : Int))]) ∧ w' = A) :
    Calls Tryz.prog f args A (RP bx g kb W ⟨#[]⟩ k A) := by
  refine h.mono ?_
  rintro e w' ⟨rfl, h2⟩
  subst h2
  exact ⟨_, _, rfl, SV.none _ _, .inr ⟨rfl, hk⟩, hK, Own.refl _ _⟩
theorem RD.bad {f : FuncId} {args : Array Value} {bx k : Nat} {A : World} (h : Calls Tryz.prog f args A fun e w' => e = .returned (.tuple #[.slice none 0 0, .int .i64 (k : Int)]) ∧ Below A.heap.size A w') :
    Calls Tryz.prog f args A (RD bx ⟨#[]⟩ k A) := by
  refine h.mono ?_
  rintro e w' ⟨rfl, h2⟩
  exact ⟨_, rfl, SV.none _ _, h2⟩
theorem RO.bad {f : FuncId} {args : Array Value} {bx g kb k : Nat} {W : Nat → Nat} {A : World} (hK : KG A g kb bx W) (hk : 0 < k) (h : Calls Tryz.prog f args A fun e w' => e = .returned (.bool false) ∧ w' = A) :
    Calls Tryz.prog f args A (RO bx g kb W k A) := by
  refine h.mono ?_
  rintro e w' ⟨rfl, h2⟩
  subst h2
  exact ⟨by rw [decide_eq_false (by omega)], hK, Own.refl _ _⟩
section
variable (g kb bx : Nat) (W N P Q : Nat → Nat) (l n an : Nat) (on ob oa : Option Addr) (cn cb ca : Nat) (w0 : World) (hN0 : Bytes w0 on l N) (hP0 : Bytes w0 ob n P) (hQ0 : Bytes w0 oa an Q) (hbx : w0.heap.size ≤ bx)
  (n1 : n ≤ cb) (n2 : cb ≤ maxLen) (a1 : an ≤ ca) (a2 : ca ≤ maxLen)
include hN0 hP0 hQ0 hbx n1 n2 a1 a2
theorem seal_pair : ∃ (S : ByteArray) (k : Nat),
    (∀ A, KG A g kb bx W → Bytes A on l N → Bytes A ob n P → Bytes A oa an Q → Calls Tryz.prog 5 #[.pointer (some ⟨g, 0, none⟩), .slice on l cn, .slice ob n cb, .slice oa an ca] A (RP bx g kb W S k A)) ∧
    (∀ A, bx < A.heap.size → Bytes A on l N → Bytes A ob n P → Bytes A oa an Q → Calls Tryz.prog 11 #[.agg (kyC W), .slice on l cn, .slice ob n cb, .slice oa an ca] A (RD bx S k A)) := by
  have hlow : ∀ (o : Option Addr) (m : Nat) (F : Nat → Nat), Bytes w0 o m F → ∀ x, o = some x → 0 < m → x.block ≠ bx := fun o m F h x hx hm => by have := h.lt x hx hm; omega
  by_cases hl : l = 12
  rotate_left
  · exact ⟨_, 1, fun A hK _ _ _ => RP.bad hK (by decide) (seal_nonce g l n an on ob oa cn cb ca A hl), fun A _ _ _ _ => RD.bad (rseal_nonce _ l n an on ob oa cn cb ca A hl)⟩
  by_cases hp : 2048 < n
  · exact ⟨_, 1, fun A hK _ _ _ => RP.bad hK (by decide) (seal_long g l n an on ob oa cn cb ca A hl hp), fun A _ _ _ _ => RD.bad (rseal_long _ l n an on ob oa cn cb ca A hl hp)⟩
  by_cases ha : 2048 < an
  · exact ⟨_, 1, fun A hK _ _ _ => RP.bad hK (by decide) (seal_aad g l n an on ob oa cn cb ca A hl (by omega) ha), fun A _ _ _ _ => RD.bad (rseal_aad _ l n an on ob oa cn cb ca A hl (by omega) ha)⟩
  subst hl
  have hNb : ∀ i, i < 12 → N i < 256 := fun i hi => (hN0 i hi).1
  have hBx : ∀ i, i < n + 16 → boxF W N P n Q an i < 256 := boxF_lt hNb (fun i hi => (hP0 i hi).1)
  refine ⟨strF (n + 16) (boxF W N P n Q an), 0, fun A hK h1 h2 h3 => ?_, fun A hx h1 h2 h3 => ?_⟩
  · refine (seal_any g kb bx W N P Q n an on ob oa cn cb ca A hK h1 (fun x hx => hlow _ _ _ hN0 x hx (by decide)) h2 (hlow _ _ _ hP0) h3 (hlow _ _ _ hQ0) n1 n2 a1 a2 (by omega) (by omega)).mono ?_
    rintro e w' ⟨v, rfl, hG, hK', hO⟩
    exact ⟨v, _, rfl, SV.grow hG hBx (by have := hK.lt; omega), .inl ⟨rfl, rfl⟩, hK', hO⟩
  · refine (rseal_ok W N P Q n an on ob oa cn cb ca A h1 h2 h3 (by omega) (by omega)).mono ?_
    rintro e w' ⟨v, rfl, hG, hb⟩
    exact ⟨v, rfl, SV.grow hG hBx hx, hb⟩
theorem open_pair : ∃ (S : ByteArray) (k : Nat),
    (∀ A, KG A g kb bx W → Bytes A on l N → Bytes A ob n P → Bytes A oa an Q → Calls Tryz.prog 6 #[.pointer (some ⟨g, 0, none⟩), .slice on l cn, .slice ob n cb, .slice oa an ca] A (RP bx g kb W S k A)) ∧
    (∀ A, bx < A.heap.size → Bytes A on l N → Bytes A ob n P → Bytes A oa an Q → Calls Tryz.prog 12 #[.agg (kyC W), .slice on l cn, .slice ob n cb, .slice oa an ca] A (RD bx S k A)) ∧
    (∀ A, KG A g kb bx W → Bytes A on l N → Bytes A ob n P → Bytes A oa an Q → Calls Tryz.prog 8 #[.pointer (some ⟨g, 0, none⟩), .slice on l cn, .slice ob n cb, .slice oa an ca] A (RO bx g kb W k A)) := by
  have _hQ := hQ0
  have hlow : ∀ (o : Option Addr) (m : Nat) (F : Nat → Nat), Bytes w0 o m F → ∀ x, o = some x → 0 < m → x.block ≠ bx := fun o m F h x hx hm => by have := h.lt x hx hm; omega
  by_cases hl : l = 12
  rotate_left
  · have hh := fun A => open_nonce g l n an on ob oa cn cb ca A hl
    exact ⟨_, 1, fun A hK _ _ _ => RP.bad hK (by decide) (hh A), fun A _ _ _ _ => RD.bad (ropen_nonce _ l n an on ob oa cn cb ca A hl), fun A hK _ _ _ => RO.bad hK (by decide) (opens_no _ _ l n an on ob oa cn cb ca A (hh A))⟩
  by_cases hp : 2064 < n
  · have hh := fun A => open_long g l n an on ob oa cn cb ca A hl hp
    exact ⟨_, 1, fun A hK _ _ _ => RP.bad hK (by decide) (hh A), fun A _ _ _ _ => RD.bad (ropen_long _ l n an on ob oa cn cb ca A hl hp), fun A hK _ _ _ => RO.bad hK (by decide) (opens_no _ _ l n an on ob oa cn cb ca A (hh A))⟩
  by_cases ha : 2048 < an
  · have hh := fun A => open_aad g l n an on ob oa cn cb ca A hl (by omega) ha
    exact ⟨_, 1, fun A hK _ _ _ => RP.bad hK (by decide) (hh A), fun A _ _ _ _ => RD.bad (ropen_aad _ l n an on ob oa cn cb ca A hl (by omega) ha), fun A hK _ _ _ => RO.bad hK (by decide) (opens_no _ _ l n an on ob oa cn cb ca A (hh A))⟩
  by_cases hs : n < 16
  · have hh := fun A => open_cut g l n an on ob oa cn cb ca A hl hs (by omega)
    subst hl
    exact ⟨_, 11, fun A hK _ _ _ => RP.bad hK (by decide) (hh A), fun A _ _ _ _ => RD.bad (ropen_short _ n an on ob oa cn cb ca A hs (by omega)), fun A hK _ _ _ => RO.bad hK (by decide) (opens_no _ _ 12 n an on ob oa cn cb ca A (hh A))⟩
  subst hl
  obtain ⟨q, rfl⟩ : ∃ q, n = q + 16 := ⟨n - 16, by omega⟩
  obtain ⟨_, bo, oo, rfl, _⟩ := hP0 0 (by omega)
  have hNb : ∀ i, i < 12 → N i < 256 := fun i hi => (hN0 i hi).1
  have hpb : bo ≠ bx := hlow _ _ _ hP0 _ rfl (by omega)
  have hnb : ∀ x, on = some x → x.block ≠ bx := fun x hx => hlow _ _ _ hN0 x hx (by decide)
  have hCx : ∀ i, i < q → cphF W N P i < 256 := cphF_lt hNb (fun i hi => (hP0 i (by omega)).1)
  obtain ⟨t, ht⟩ : ∃ t, eqF (tgF W N Q an P q) (fun i => P (q + i)) = t := ⟨_, rfl⟩
  have hop := fun A (hK : KG A g kb bx W) (h1 : Bytes A on 12 N) (h2 : Bytes A (some ⟨bo, oo, none⟩) (q + 16) P) (h3 : Bytes A oa an Q) => opens_any g kb bx W N P Q q an bo oo on oa cn cb ca A hK h1 hnb h2 hpb h3 n1 n2 a1 a2 (by omega) (by omega)
  have ho := fun A (hK : KG A g kb bx W) (h1 : Bytes A on 12 N) (h2 : Bytes A (some ⟨bo, oo, none⟩) (q + 16) P) (h3 : Bytes A oa an Q) => open_any g kb bx W N P Q q an bo oo on oa cn cb ca A hK h1 hnb h2 hpb h3 n1 n2 a1 a2 (by omega) (by omega)
  cases t with
  | true =>
    refine ⟨strF q (cphF W N P), 0, fun A hK h1 h2 h3 => ?_, fun A hx h1 h2 h3 => ?_, fun A hK h1 h2 h3 => ?_⟩
    · refine (ho A hK h1 h2 h3).mono ?_
      rintro e w' ⟨hK', hO, (⟨_, v, B, rfl, hG, hB⟩ | ⟨hf, _⟩)⟩
      · exact ⟨v, _, rfl, SV.grow hG hCx (by have := hK.lt; omega), .inl ⟨rfl, rfl⟩, hK', hO⟩
      · rw [ht] at hf; cases hf
    · refine (ropen_any W N P Q q an bo oo on oa cn cb ca A h1 h2 h3 n1 n2 (by omega) (by omega) (eqF_iff.1 ht)).mono ?_
      rintro e w' ⟨v, rfl, hG, hb⟩
      exact ⟨v, rfl, SV.grow hG hCx hx, hb⟩
    · refine (hop A hK h1 h2 h3).mono ?_
      rintro e w' ⟨rfl, hK', hO⟩
      exact ⟨by rw [ht]; rfl, hK', hO⟩
  | false =>
    have hex : ∃ i, i < 16 ∧ tgF W N Q an P q i ≠ P (q + i) := Classical.byContradiction fun h => by
      have h9 : eqF (tgF W N Q an P q) (fun i => P (q + i)) = true := eqF_iff.2 fun i hi => Classical.byContradiction fun h8 => h ⟨i, hi, h8⟩
      rw [ht] at h9; cases h9
    refine ⟨⟨#[]⟩, 11, fun A hK h1 h2 h3 => ?_, fun A hx h1 h2 h3 => ?_, fun A hK h1 h2 h3 => ?_⟩
    · refine (ho A hK h1 h2 h3).mono ?_
      rintro e w' ⟨hK', hO, (⟨hf, _⟩ | ⟨_, rfl⟩)⟩
      · rw [ht] at hf; cases hf
      · exact ⟨_, _, rfl, SV.none _ _, .inr ⟨rfl, by decide⟩, hK', hO⟩
    · exact RD.bad (ropen_unlike W N P Q q an bo oo on oa cn cb ca A h1 h2 h3 n1 n2 (by omega) (by omega) hex)
    · refine (hop A hK h1 h2 h3).mono ?_
      rintro e w' ⟨rfl, hK', hO⟩
      exact ⟨by rw [ht]; rfl, hK', hO⟩
end
end Go.Proofs.YtkcbckafibjflaaGreatDoor
namespace Go.Proofs.YtkcbckafibjflaaGreatDoor
set_option linter.unusedVariables false
set_option linter.unusedSimpArgs false
open Go.RowKit
theorem exec_convV {o : Oper} {a : Act} {w : World} {x : Operand} {v : Value} {S : ByteArray} (ho : o.op = .convert 22 9 x) (hx : a.eval x = v) (h : (convert 22 9 v).run Tryz.prog w = .ok (.string S) w) : (execOp a.eval o).run Tryz.prog w = .ok (.value (.string S)) w := by
  unfold execOp
  simp only [ho, hx, Sem.run_bind, h, Result.andThen_ok]
  rfl
theorem KG.other {w w' : World} {g kb bx c : Nat} {W : Nat → Nat} (h : KG w g kb bx W) (hO : Own c w w') (h1 : g ≠ c) (h2 : kb ≠ c) (h3 : bx ≠ c) : KG w' g kb bx W := ⟨hO.blk h.me h1, hO.blk h.key h2, h.box.own hO h3, h.gne, h.kne⟩
/-- Ahead of the key. -/
structure LW (w : World) (cs : Array Value) (A : World) : Prop where
  b : Below w.heap.size w A
  s : Blk A w.heap.size cs 24
theorem LW.later {w A B : World} {cs : Array Value} (h : LW w cs A) (hb : Below A.heap.size A B) : LW w cs B := ⟨h.b.trans (hb.mono h.b.size), Blk.below h.s hb (Blk.lt h.s)⟩
/-- With the key. -/
structure XW (w : World) (cs : Array Value) (g kb bx : Nat) (W : Nat → Nat) (A : World) : Prop where
  b : Below w.heap.size w A
  s : Blk A w.heap.size cs 24
  k : KG A g kb bx W
  lt : w.heap.size < bx
theorem XW.later {w A B : World} {cs : Array Value} {g kb bx : Nat} {W : Nat → Nat} (h : XW w cs g kb bx W A) (hb : Below A.heap.size A B) : XW w cs g kb bx W B := ⟨h.b.trans (hb.mono h.b.size), Blk.below h.s hb (Blk.lt h.s), h.k.below hb, h.lt⟩
theorem XW.own {w A B : World} {cs : Array Value} {g kb bx : Nat} {W : Nat → Nat} (h : XW w cs g kb bx W A) (hO : Own bx A B) (hK : KG B g kb bx W) : XW w cs g kb bx W B :=
  ⟨h.b.trans (hO.below (Nat.le_of_lt h.lt) h.b.size), hO.blk h.s (Nat.ne_of_lt h.lt), hK, h.lt⟩
set_option maxRecDepth 100000 in
set_option maxHeartbeats 16000000 in
theorem exact_any (nk ck nn cn na ca n cb m cq : Nat) (ok on oa ob oq : Option Addr) (K N Q P B : Nat → Nat) (w : World) (hg : Handle w) (hK : Bytes w ok nk K) (hN : Bytes w on nn N) (hQ : Bytes w oa na Q) (hP : Bytes w ob n P) (hB : Bytes w oq m B)
    (k1 : nk ≤ ck) (k2 : ck ≤ maxLen) (n1 : nn ≤ cn) (n2 : cn ≤ maxLen) (a1 : na ≤ ca) (a2 : ca ≤ maxLen) (p1 : n ≤ cb) (p2 : cb ≤ maxLen) (q1 : m ≤ cq) (q2 : cq ≤ maxLen) :
    Calls Tryz.prog 3 #[.agg #[.slice ok nk ck, .slice on nn cn, .slice oa na ca], .slice ob n cb, .slice oq m cq] w fun e w' => e = .returned (.bool true) ∧ Below w.heap.size w w' := by
  obtain ⟨w0, hw0⟩ : ∃ y, w.alloc (.cells #[.slice ok nk ck, .slice on nn cn, .slice oa na ca] 24) = y := ⟨_, rfl⟩
  have hb0 : Below w.heap.size w w0 := by rw [← hw0]; exact (Below.refl _ _).alloc (Nat.le_refl _) _
  have hB0 : Blk w0 w.heap.size #[.slice ok nk ck, .slice on nn cn, .slice oa na ca] 24 := by rw [← hw0]; exact Blk.new _ _ _
  have HL0 := Lib.hid (show LW w #[.slice ok nk ck, .slice on nn cn, .slice oa na ca] w0 from ⟨hb0, hB0⟩)
  have HG : Hid (∀ A, Below w.heap.size w A → Handle A) := Lib.hid fun A hb => hg.below hb hg.2
  have HSU : Hid (∀ w', Below w.heap.size w w' → Calls Tryz.prog 4 #[] w' fun e w'' => e = .returned (.bool true) ∧ Below w'.heap.size w' w'') := Lib.hid fun w' hb => sure11 w' (hg.below hb hg.2)
  have HKY := Lib.hid hK
  have HSP := Lib.hid (fun g kb bx W (hbx : w.heap.size ≤ bx) => seal_pair g kb bx W N P Q nn n na on ob oa cn cb ca w hN hP hQ hbx p1 p2 a1 a2)
  have HOP := Lib.hid (fun g kb bx W (hbx : w.heap.size ≤ bx) => open_pair g kb bx W N B Q nn m na on oq oa cn cq ca w hN hB hQ hbx q1 q2 a1 a2)
  have HIN := Lib.hid (show Bytes w on nn N ∧ Bytes w oa na Q ∧ Bytes w ob n P ∧ Bytes w oq m B from ⟨hN, hQ, hP, hB⟩)
  obtain ⟨BAD, hBAD⟩ : ∃ y, y = decide ((300 < n ∧ n ≤ 2048) ∨ (300 < m ∧ m ≤ 2064) ∨ (300 < na ∧ na ≤ 2048)) := ⟨_, rfl⟩
  have HBAD := Lib.hid hBAD
  have c0 : w0.cell? ⟨w.heap.size, 0, none⟩ = some (.slice ok nk ck) := by rw [Blk.cell HL0.out.s]; rfl
  have c1 : w0.cell? ⟨w.heap.size, 1, none⟩ = some (.slice on nn cn) := by rw [Blk.cell HL0.out.s]; rfl
  have c2 : w0.cell? ⟨w.heap.size, 2, none⟩ = some (.slice oa na ca) := by rw [Blk.cell HL0.out.s]; rfl
  clear hg hK hN hQ hP hB hb0 hB0 k1 k2 n1 n2 a1 a2 p1 p2 q1 q2 hBAD
  go_enter Tryz.func3, Tryz.ntmps3
  go_upto_region 1 with fail
  go_cut [52] from 23 (fun s52 wx => s52 = .bool BAD ∧ w0 = wx)
  case first =>
    by_cases p0 : 300 < n
    · by_cases q0 : n ≤ 2048
      · skip
        have g00 : (300 : Int) < (n : Int) := by omega
        have g01 : decide ((300 : Int) < (n : Int)) = true := decide_eq_true g00
        have g02 : ¬ (n : Int) ≤ 300 := by omega
        have g03 : decide ((n : Int) ≤ 300) = false := decide_eq_false g02
        have g05 : (n : Int) ≤ 2048 := by omega
        have g06 : decide ((n : Int) ≤ 2048) = true := decide_eq_true g05
        have hv : BAD = true := HBAD.out.trans (decide_eq_true (by omega))
        have HV := Lib.hid hv
        clear hv
        go_wp2_with fail
        go_meet
        exact ⟨by rw [HV.out], rfl⟩
      · skip
        have g00 : (300 : Int) < (n : Int) := by omega
        have g01 : decide ((300 : Int) < (n : Int)) = true := decide_eq_true g00
        have g02 : ¬ (n : Int) ≤ 300 := by omega
        have g03 : decide ((n : Int) ≤ 300) = false := decide_eq_false g02
        have m00 : (2048 : Int) < (n : Int) := by omega
        have m01 : decide ((2048 : Int) < (n : Int)) = true := decide_eq_true m00
        have m02 : ¬ (n : Int) ≤ 2048 := by omega
        have m03 : decide ((n : Int) ≤ 2048) = false := decide_eq_false m02
        by_cases p1 : 300 < m
        · by_cases q1 : m ≤ 2064
          · skip
            have g10 : (300 : Int) < (m : Int) := by omega
            have g11 : decide ((300 : Int) < (m : Int)) = true := decide_eq_true g10
            have g12 : ¬ (m : Int) ≤ 300 := by omega
            have g13 : decide ((m : Int) ≤ 300) = false := decide_eq_false g12
            have g15 : (m : Int) ≤ 2064 := by omega
            have g16 : decide ((m : Int) ≤ 2064) = true := decide_eq_true g15
            have hv : BAD = true := HBAD.out.trans (decide_eq_true (by omega))
            have HV := Lib.hid hv
            clear hv
            go_wp2_with fail
            go_meet
            exact ⟨by rw [HV.out], rfl⟩
          · skip
            have g10 : (300 : Int) < (m : Int) := by omega
            have g11 : decide ((300 : Int) < (m : Int)) = true := decide_eq_true g10
            have g12 : ¬ (m : Int) ≤ 300 := by omega
            have g13 : decide ((m : Int) ≤ 300) = false := decide_eq_false g12
            have m10 : (2064 : Int) < (m : Int) := by omega
            have m11 : decide ((2064 : Int) < (m : Int)) = true := decide_eq_true m10
            have m12 : ¬ (m : Int) ≤ 2064 := by omega
            have m13 : decide ((m : Int) ≤ 2064) = false := decide_eq_false m12
            by_cases p2 : 300 < na
            · by_cases q2 : na ≤ 2048
              · skip
                have g20 : (300 : Int) < (na : Int) := by omega
                have g21 : decide ((300 : Int) < (na : Int)) = true := decide_eq_true g20
                have g22 : ¬ (na : Int) ≤ 300 := by omega
                have g23 : decide ((na : Int) ≤ 300) = false := decide_eq_false g22
                have g25 : (na : Int) ≤ 2048 := by omega
                have g26 : decide ((na : Int) ≤ 2048) = true := decide_eq_true g25
                have hv : BAD = true := HBAD.out.trans (decide_eq_true (by omega))
                have HV := Lib.hid hv
                clear hv
                go_wp2_with fail
                go_meet
                exact ⟨by rw [HV.out], rfl⟩
              · skip
                have g20 : (300 : Int) < (na : Int) := by omega
                have g21 : decide ((300 : Int) < (na : Int)) = true := decide_eq_true g20
                have g22 : ¬ (na : Int) ≤ 300 := by omega
                have g23 : decide ((na : Int) ≤ 300) = false := decide_eq_false g22
                have m20 : (2048 : Int) < (na : Int) := by omega
                have m21 : decide ((2048 : Int) < (na : Int)) = true := decide_eq_true m20
                have m22 : ¬ (na : Int) ≤ 2048 := by omega
                have m23 : decide ((na : Int) ≤ 2048) = false := decide_eq_false m22
                have hv : BAD = false := HBAD.out.trans (decide_eq_false (by omega))
                have HV := Lib.hid hv
                clear hv
                go_wp2_with fail
                go_meet
                exact ⟨by rw [HV.out], rfl⟩
            · skip
              have g20 : ¬ (300 : Int) < (na : Int) := by omega
              have g21 : decide ((300 : Int) < (na : Int)) = false := decide_eq_false g20
              have g22 : (na : Int) ≤ 300 := by omega
              have hv : BAD = false := HBAD.out.trans (decide_eq_false (by omega))
              have HV := Lib.hid hv
              clear hv
              go_wp2_with fail
              go_meet
              exact ⟨by rw [HV.out], rfl⟩
        · skip
          have g10 : ¬ (300 : Int) < (m : Int) := by omega
          have g11 : decide ((300 : Int) < (m : Int)) = false := decide_eq_false g10
          have g12 : (m : Int) ≤ 300 := by omega
          by_cases p2 : 300 < na
          · by_cases q2 : na ≤ 2048
            · skip
              have g20 : (300 : Int) < (na : Int) := by omega
              have g21 : decide ((300 : Int) < (na : Int)) = true := decide_eq_true g20
              have g22 : ¬ (na : Int) ≤ 300 := by omega
              have g23 : decide ((na : Int) ≤ 300) = false := decide_eq_false g22
              have g25 : (na : Int) ≤ 2048 := by omega
              have g26 : decide ((na : Int) ≤ 2048) = true := decide_eq_true g25
              have hv : BAD = true := HBAD.out.trans (decide_eq_true (by omega))
              have HV := Lib.hid hv
              clear hv
              go_wp2_with fail
              go_meet
              exact ⟨by rw [HV.out], rfl⟩
            · skip
              have g20 : (300 : Int) < (na : Int) := by omega
              have g21 : decide ((300 : Int) < (na : Int)) = true := decide_eq_true g20
              have g22 : ¬ (na : Int) ≤ 300 := by omega
              have g23 : decide ((na : Int) ≤ 300) = false := decide_eq_false g22
              have m20 : (2048 : Int) < (na : Int) := by omega
              have m21 : decide ((2048 : Int) < (na : Int)) = true := decide_eq_true m20
              have m22 : ¬ (na : Int) ≤ 2048 := by omega
              have m23 : decide ((na : Int) ≤ 2048) = false := decide_eq_false m22
              have hv : BAD = false := HBAD.out.trans (decide_eq_false (by omega))
              have HV := Lib.hid hv
              clear hv
              go_wp2_with fail
              go_meet
              exact ⟨by rw [HV.out], rfl⟩
          · skip
            have g20 : ¬ (300 : Int) < (na : Int) := by omega
            have g21 : decide ((300 : Int) < (na : Int)) = false := decide_eq_false g20
            have g22 : (na : Int) ≤ 300 := by omega
            have hv : BAD = false := HBAD.out.trans (decide_eq_false (by omega))
            have HV := Lib.hid hv
            clear hv
            go_wp2_with fail
            go_meet
            exact ⟨by rw [HV.out], rfl⟩
    · skip
      have g00 : ¬ (300 : Int) < (n : Int) := by omega
      have g01 : decide ((300 : Int) < (n : Int)) = false := decide_eq_false g00
      have g02 : (n : Int) ≤ 300 := by omega
      by_cases p1 : 300 < m
      · by_cases q1 : m ≤ 2064
        · skip
          have g10 : (300 : Int) < (m : Int) := by omega
          have g11 : decide ((300 : Int) < (m : Int)) = true := decide_eq_true g10
          have g12 : ¬ (m : Int) ≤ 300 := by omega
          have g13 : decide ((m : Int) ≤ 300) = false := decide_eq_false g12
          have g15 : (m : Int) ≤ 2064 := by omega
          have g16 : decide ((m : Int) ≤ 2064) = true := decide_eq_true g15
          have hv : BAD = true := HBAD.out.trans (decide_eq_true (by omega))
          have HV := Lib.hid hv
          clear hv
          go_wp2_with fail
          go_meet
          exact ⟨by rw [HV.out], rfl⟩
        · skip
          have g10 : (300 : Int) < (m : Int) := by omega
          have g11 : decide ((300 : Int) < (m : Int)) = true := decide_eq_true g10
          have g12 : ¬ (m : Int) ≤ 300 := by omega
          have g13 : decide ((m : Int) ≤ 300) = false := decide_eq_false g12
          have m10 : (2064 : Int) < (m : Int) := by omega
          have m11 : decide ((2064 : Int) < (m : Int)) = true := decide_eq_true m10
          have m12 : ¬ (m : Int) ≤ 2064 := by omega
          have m13 : decide ((m : Int) ≤ 2064) = false := decide_eq_false m12
          by_cases p2 : 300 < na
          · by_cases q2 : na ≤ 2048
            · skip
              have g20 : (300 : Int) < (na : Int) := by omega
              have g21 : decide ((300 : Int) < (na : Int)) = true := decide_eq_true g20
              have g22 : ¬ (na : Int) ≤ 300 := by omega
              have g23 : decide ((na : Int) ≤ 300) = false := decide_eq_false g22
              have g25 : (na : Int) ≤ 2048 := by omega
              have g26 : decide ((na : Int) ≤ 2048) = true := decide_eq_true g25
              have hv : BAD = true := HBAD.out.trans (decide_eq_true (by omega))
              have HV := Lib.hid hv
              clear hv
              go_wp2_with fail
              go_meet
              exact ⟨by rw [HV.out], rfl⟩
            · skip
              have g20 : (300 : Int) < (na : Int) := by omega
              have g21 : decide ((300 : Int) < (na : Int)) = true := decide_eq_true g20
              have g22 : ¬ (na : Int) ≤ 300 := by omega
              have g23 : decide ((na : Int) ≤ 300) = false := decide_eq_false g22
              have m20 : (2048 : Int) < (na : Int) := by omega
              have m21 : decide ((2048 : Int) < (na : Int)) = true := decide_eq_true m20
              have m22 : ¬ (na : Int) ≤ 2048 := by omega
              have m23 : decide ((na : Int) ≤ 2048) = false := decide_eq_false m22
              have hv : BAD = false := HBAD.out.trans (decide_eq_false (by omega))
              have HV := Lib.hid hv
              clear hv
              go_wp2_with fail
              go_meet
              exact ⟨by rw [HV.out], rfl⟩
          · skip
            have g20 : ¬ (300 : Int) < (na : Int) := by omega
            have g21 : decide ((300 : Int) < (na : Int)) = false := decide_eq_false g20
            have g22 : (na : Int) ≤ 300 := by omega
            have hv : BAD = false := HBAD.out.trans (decide_eq_false (by omega))
            have HV := Lib.hid hv
            clear hv
            go_wp2_with fail
            go_meet
            exact ⟨by rw [HV.out], rfl⟩
      · skip
        have g10 : ¬ (300 : Int) < (m : Int) := by omega
        have g11 : decide ((300 : Int) < (m : Int)) = false := decide_eq_false g10
        have g12 : (m : Int) ≤ 300 := by omega
        by_cases p2 : 300 < na
        · by_cases q2 : na ≤ 2048
          · skip
            have g20 : (300 : Int) < (na : Int) := by omega
            have g21 : decide ((300 : Int) < (na : Int)) = true := decide_eq_true g20
            have g22 : ¬ (na : Int) ≤ 300 := by omega
            have g23 : decide ((na : Int) ≤ 300) = false := decide_eq_false g22
            have g25 : (na : Int) ≤ 2048 := by omega
            have g26 : decide ((na : Int) ≤ 2048) = true := decide_eq_true g25
            have hv : BAD = true := HBAD.out.trans (decide_eq_true (by omega))
            have HV := Lib.hid hv
            clear hv
            go_wp2_with fail
            go_meet
            exact ⟨by rw [HV.out], rfl⟩
          · skip
            have g20 : (300 : Int) < (na : Int) := by omega
            have g21 : decide ((300 : Int) < (na : Int)) = true := decide_eq_true g20
            have g22 : ¬ (na : Int) ≤ 300 := by omega
            have g23 : decide ((na : Int) ≤ 300) = false := decide_eq_false g22
            have m20 : (2048 : Int) < (na : Int) := by omega
            have m21 : decide ((2048 : Int) < (na : Int)) = true := decide_eq_true m20
            have m22 : ¬ (na : Int) ≤ 2048 := by omega
            have m23 : decide ((na : Int) ≤ 2048) = false := decide_eq_false m22
            have hv : BAD = false := HBAD.out.trans (decide_eq_false (by omega))
            have HV := Lib.hid hv
            clear hv
            go_wp2_with fail
            go_meet
            exact ⟨by rw [HV.out], rfl⟩
        · skip
          have g20 : ¬ (300 : Int) < (na : Int) := by omega
          have g21 : decide ((300 : Int) < (na : Int)) = false := decide_eq_false g20
          have g22 : (na : Int) ≤ 300 := by omega
          have hv : BAD = false := HBAD.out.trans (decide_eq_false (by omega))
          have HV := Lib.hid hv
          clear hv
          go_wp2_with fail
          go_meet
          exact ⟨by rw [HV.out], rfl⟩
  case rest =>
    obtain ⟨h1, h2⟩ := hcut
    subst h1; subst h2
    clear HBAD
    cases BAD with
    | true =>
      go_wp2_with fail
      refine (HSU.out w0 HL0.out.b).mono ?_
      rintro e w1 ⟨rfl, hb1⟩
      have HB1 := Lib.hid (HL0.out.b.trans (hb1.mono HL0.out.b.size))
      clear hb1 c0 c1 c2
      go_wp2_with fail
      go_ret
      exact ⟨rfl, HB1.out⟩
    | false =>
      go_wp2_with fail
      refine (seal_nil nn n na on ob oa cn cb ca w0).mono ?_
      rintro e w1 ⟨rfl, hb⟩
      replace hb := hb.symm
      subst hb
      go_wp2_with fail
      refine (open_nil nn m na on oq oa cn cq ca w0).mono ?_
      rintro e w1 ⟨rfl, hb⟩
      replace hb := hb.symm
      subst hb
      clear c0 c1 c2
      go_wp2_with fail
      refine (num_err 1 w0 (HG.out w0 HL0.out.b)).mono ?_
      rintro e w1 ⟨rfl, hb⟩
      have HL1 := Lib.hid (HL0.out.later hb)
      clear hb HL0
      go_wp2_with fail
      refine (num_err 1 w1 (HG.out w1 HL1.out.b)).mono ?_
      rintro e w2 ⟨rfl, hb⟩
      have HL2 := Lib.hid (HL1.out.later hb)
      clear hb HL1
      have c0 : w2.cell? ⟨w.heap.size, 0, none⟩ = some (.slice ok nk ck) := by rw [Blk.cell HL2.out.s]; rfl
      have c1 : w2.cell? ⟨w.heap.size, 1, none⟩ = some (.slice on nn cn) := by rw [Blk.cell HL2.out.s]; rfl
      have c2 : w2.cell? ⟨w.heap.size, 2, none⟩ = some (.slice oa na ca) := by rw [Blk.cell HL2.out.s]; rfl
      go_wp2_with fail
      refine (opens_no none 1 nn m na on oq oa cn cq ca w2 (open_nil nn m na on oq oa cn cq ca w2)).mono ?_
      rintro e w3 ⟨rfl, hb⟩
      replace hb := hb.symm
      subst hb
      go_wp2_with fail
      by_cases hk : nk = 32
      rotate_left
      · have h1 : ¬ (nk : Int) = 32 := by omega
        have h2 : decide ((nk : Int) = 32) = false := decide_eq_false h1
        have h4 : ((nk : Int) == 32) = false := by simp only [beq_eq_false_iff_ne]; exact h1
        refine (gnew_bad nk ok ck w2 hk).mono ?_
        rintro e w3 ⟨rfl, hb⟩
        have HL3 := Lib.hid (HL2.out.later hb)
        clear hb HL2 c0 c1 c2
        have c0 : w3.cell? ⟨w.heap.size, 0, none⟩ = some (.slice ok nk ck) := by rw [Blk.cell HL3.out.s]; rfl
        have c1 : w3.cell? ⟨w.heap.size, 1, none⟩ = some (.slice on nn cn) := by rw [Blk.cell HL3.out.s]; rfl
        have c2 : w3.cell? ⟨w.heap.size, 2, none⟩ = some (.slice oa na ca) := by rw [Blk.cell HL3.out.s]; rfl
        go_wp2_with fail
        refine (num_err 1 w3 (HG.out w3 HL3.out.b)).mono ?_
        rintro e w4 ⟨rfl, hb⟩
        have HL4 := Lib.hid (HL3.out.later hb)
        clear hb HL3 c0 c1 c2
        go_wp2_with fail
        refine (HSU.out w4 HL4.out.b).mono ?_
        rintro e w5 ⟨rfl, hb1⟩
        have HB1 := Lib.hid (HL4.out.b.trans (hb1.mono HL4.out.b.size))
        clear hb1
        go_wp2_with fail
        go_ret
        exact ⟨rfl, HB1.out⟩
      subst hk
      refine (gnew_any K ok ck w2 (HKY.out.later HL2.out.b)).mono ?_
      rintro e w3 ⟨g, kb, bx, rfl, hG⟩
      obtain ⟨hK3, hb3, hx3, -, -⟩ := hG
      have HRK := Lib.hid (fun A (hb : Below w.heap.size w A) => rkey_any K ok ck A (HKY.out.later hb))
      obtain ⟨W, hW⟩ : ∃ y, exK K 60 = y := ⟨_, rfl⟩
      rw [hW] at hK3 HRK
      have HL3 := Lib.hid (show XW w #[.slice ok 32 ck, .slice on nn cn, .slice oa na ca] g kb bx W w3 from ⟨(HL2.out.later hb3).b, (HL2.out.later hb3).s, hK3, by have := Blk.lt HL2.out.s; omega⟩)
      obtain ⟨S1, n1, hs1, hs2⟩ := HSP.out g kb bx W (Nat.le_of_lt HL3.out.lt)
      obtain ⟨S2, n2, ho1, ho2, ho3⟩ := HOP.out g kb bx W (Nat.le_of_lt HL3.out.lt)
      obtain ⟨KC, hKC⟩ : ∃ y, kyC W = y := ⟨_, rfl⟩
      rw [hKC] at hs2 ho2 HRK
      have HSS : Hid (∀ A, KG A g kb bx W → Below w.heap.size w A → Calls Tryz.prog 5 #[.pointer (some ⟨g, 0, none⟩), .slice on nn cn, .slice ob n cb, .slice oa na ca] A (RP bx g kb W S1 n1 A)) := Lib.hid fun A hK hb => hs1 A hK (HIN.out.1.later hb) (HIN.out.2.2.1.later hb) (HIN.out.2.1.later hb)
      have HSD : Hid (∀ A, KG A g kb bx W → Below w.heap.size w A → Calls Tryz.prog 11 #[.agg KC, .slice on nn cn, .slice ob n cb, .slice oa na ca] A (RD bx S1 n1 A)) := Lib.hid fun A hK hb => hs2 A (by have := hK.lt; omega) (HIN.out.1.later hb) (HIN.out.2.2.1.later hb) (HIN.out.2.1.later hb)
      have HOO : Hid (∀ A, KG A g kb bx W → Below w.heap.size w A → Calls Tryz.prog 6 #[.pointer (some ⟨g, 0, none⟩), .slice on nn cn, .slice oq m cq, .slice oa na ca] A (RP bx g kb W S2 n2 A)) := Lib.hid fun A hK hb => ho1 A hK (HIN.out.1.later hb) (HIN.out.2.2.2.later hb) (HIN.out.2.1.later hb)
      have HOD : Hid (∀ A, KG A g kb bx W → Below w.heap.size w A → Calls Tryz.prog 12 #[.agg KC, .slice on nn cn, .slice oq m cq, .slice oa na ca] A (RD bx S2 n2 A)) := Lib.hid fun A hK hb => ho2 A (by have := hK.lt; omega) (HIN.out.1.later hb) (HIN.out.2.2.2.later hb) (HIN.out.2.1.later hb)
      have HOS : Hid (∀ A, KG A g kb bx W → Below w.heap.size w A → Calls Tryz.prog 8 #[.pointer (some ⟨g, 0, none⟩), .slice on nn cn, .slice oq m cq, .slice oa na ca] A (RO bx g kb W n2 A)) := Lib.hid fun A hK hb => ho3 A hK (HIN.out.1.later hb) (HIN.out.2.2.2.later hb) (HIN.out.2.1.later hb)
      obtain ⟨ZK, hZK⟩ : ∃ y, zKy = y := ⟨_, rfl⟩
      have HKC : Hid (KC.size ≤ ZK.size ∧ (Tryz.prog.info? 42).map (·.size) = some KC.size ∧ KC.all (·.oneCell') = true ∧ KC.size = ZK.size) := Lib.hid (by
        rw [← hKC, ← hZK, kyC_size, zKy_size]; exact ⟨Nat.le_refl _, info_ky, ky_one W, rfl⟩)
      have HLD : Hid (∀ A b, Blk A b KC 42 → (loadVar 42 ⟨b, 0, none⟩).run Tryz.prog A = .ok (.agg KC) A) := Lib.hid fun A b hB => by
        rw [← hKC] at hB ⊢; exact ky_loads hB A (Below.refl _ _)
      have hz := zKy_run
      rw [hZK] at hz
      have HZ := Lib.hid hz
      clear hz hZK hKC hs1 hs2 ho1 ho2 ho3 hW hK3 hb3 hx3 HL2 HSP HOP HKY HIN c0 c1 c2
      have c0 : w3.cell? ⟨w.heap.size, 0, none⟩ = some (.slice ok 32 ck) := by rw [Blk.cell HL3.out.s]; rfl
      have c1 : w3.cell? ⟨w.heap.size, 1, none⟩ = some (.slice on nn cn) := by rw [Blk.cell HL3.out.s]; rfl
      have c2 : w3.cell? ⟨w.heap.size, 2, none⟩ = some (.slice oa na ca) := by rw [Blk.cell HL3.out.s]; rfl
      go_wp2_with fail
      refine (HRK.out w3 HL3.out.b).mono ?_
      rintro e w4 ⟨rfl, hb⟩
      have HL4 := Lib.hid (HL3.out.later hb)
      obtain ⟨kr, hkr⟩ : ∃ y, w4.heap.size = y := ⟨_, rfl⟩
      obtain ⟨w5, hw5⟩ : ∃ y, w4.alloc (.cells ZK 42) = y := ⟨_, rfl⟩
      have hb5 : Below w4.heap.size w4 w5 := by rw [← hw5]; exact (Below.refl _ _).alloc (Nat.le_refl _) _
      have HK5 : Hid (Blk w5 kr ZK 42) := Lib.hid (by rw [← hw5, ← hkr]; exact Blk.new _ _ _)
      have HKR := Lib.hid (show bx < kr ∧ w.heap.size < kr ∧ kr < w5.heap.size from ⟨by have := HL4.out.k.lt; omega, by have := HL4.out.lt; have := HL4.out.k.lt; omega, Blk.lt HK5.out⟩)
      have HL5 := Lib.hid (HL4.out.later hb5)
      have HK4 := Lib.hid (show w4.heap.size ≤ kr by omega)
      have hz := HZ.out
      clear hb hb5 HL3 c0 c1 c2 HRK
      go_wp2_with (first
        | (refine wpList_store_mid rfl 42 (.tmp 14) (.tmp 113) rfl kr 0 KC rfl rfl (Blk.thereAll HK5.out _ HKC.out.1) HKC.out.2.1 HKC.out.2.2.1 ?_
           obtain ⟨w6, hw6⟩ : ∃ y, w5.setCells kr 0 KC.toList = y := ⟨_, rfl⟩
           have hO : Own kr w5 w6 := (by rw [← hw6]; exact Own.setCells _ _ _)
           have HK6 : Hid (Blk w6 kr KC 42) := Lib.hid (by rw [← hw6]; exact Blk.whole HK5.out HKC.out.2.2.2)
           have HO6 := Lib.hid hO
           rw [hw6]
           clear hw6 hO
           refine Hid.out ?_))
      refine Lib.hid ?_
      have hk5 := HL5.out.k.other HO6.out (by have := HL4.out.k.lt; have := HK4.out; omega) (by have := HL4.out.k.lt; have := HK4.out; omega) (by have := HL4.out.k.lt; have := HK4.out; omega)
      have HL6 := Lib.hid (show XW w #[.slice ok 32 ck, .slice on nn cn, .slice oa na ca] g kb bx W w6 from ⟨HL5.out.b.trans (HO6.out.below (Nat.le_of_lt HKR.out.2.1) HL5.out.b.size), HO6.out.blk HL5.out.s (Nat.ne_of_lt HKR.out.2.1), hk5, HL5.out.lt⟩)
      clear hk5 hw5 hkr HL4 HL5 HK4 hz HO6 HK5
      have c1 : w6.cell? ⟨w.heap.size, 1, none⟩ = some (.slice on nn cn) := by rw [Blk.cell HL6.out.s]; rfl
      have c2 : w6.cell? ⟨w.heap.size, 2, none⟩ = some (.slice oa na ca) := by rw [Blk.cell HL6.out.s]; rfl
      go_wp2_with fail
      refine (HSS.out w6 HL6.out.k HL6.out.b).mono ?_
      rintro e w7 ⟨v1, e1, rfl, hS, hE, hK, hO⟩
      have HL7 := Lib.hid (HL6.out.own hO hK)
      have HV1 := Lib.hid hS
      have HE1 := Lib.hid hE
      have HK7 := Lib.hid (hO.blk HK6.out (Nat.ne_of_gt HKR.out.1))
      have d9 := HLD.out w7 kr HK7.out
      clear hS hE hK hO HL6 HK6 c1 c2
      have c1 : w7.cell? ⟨w.heap.size, 1, none⟩ = some (.slice on nn cn) := by rw [Blk.cell HL7.out.s]; rfl
      have c2 : w7.cell? ⟨w.heap.size, 2, none⟩ = some (.slice oa na ca) := by rw [Blk.cell HL7.out.s]; rfl
      go_wp2_with (first | (refine wpList_value rfl (exec_loadC (ty := 42) (v := .agg KC) (b := kr) (f := 0) (x := .tmp 14) rfl rfl d9) ?_))
      refine (HSD.out w7 HL7.out.k HL7.out.b).mono ?_
      rintro e w8 ⟨v2, rfl, hS, hb⟩
      have HL8 := Lib.hid (HL7.out.later hb)
      have HV2 := Lib.hid hS
      have HV1' := Lib.hid (HV1.out.later hb)
      have HK8 := Lib.hid (Blk.below HK7.out hb (Blk.lt HK7.out))
      clear hS hb HL7 HK7 HV1 d9 c1 c2
      have c1 : w8.cell? ⟨w.heap.size, 1, none⟩ = some (.slice on nn cn) := by rw [Blk.cell HL8.out.s]; rfl
      have c2 : w8.cell? ⟨w.heap.size, 2, none⟩ = some (.slice oa na ca) := by rw [Blk.cell HL8.out.s]; rfl
      go_wp2_with fail
      refine (HOO.out w8 HL8.out.k HL8.out.b).mono ?_
      rintro e w9 ⟨v3, e3, rfl, hS, hE, hK, hO⟩
      have HL9 := Lib.hid (HL8.out.own hO hK)
      have HV1 := Lib.hid (HV1'.out.own hO)
      have HV2' := Lib.hid (HV2.out.own hO)
      have HV3 := Lib.hid hS
      have HE3 := Lib.hid hE
      have HK9 := Lib.hid (hO.blk HK8.out (Nat.ne_of_gt HKR.out.1))
      have d9 := HLD.out w9 kr HK9.out
      clear hS hE hK hO HL8 HK8 HV1' HV2 c1 c2
      have c1 : w9.cell? ⟨w.heap.size, 1, none⟩ = some (.slice on nn cn) := by rw [Blk.cell HL9.out.s]; rfl
      have c2 : w9.cell? ⟨w.heap.size, 2, none⟩ = some (.slice oa na ca) := by rw [Blk.cell HL9.out.s]; rfl
      go_wp2_with (first | (refine wpList_value rfl (exec_loadC (ty := 42) (v := .agg KC) (b := kr) (f := 0) (x := .tmp 14) rfl rfl d9) ?_))
      refine (HOD.out w9 HL9.out.k HL9.out.b).mono ?_
      rintro e w10 ⟨v4, rfl, hS, hb⟩
      have HL10 := Lib.hid (HL9.out.later hb)
      have HC1 := Lib.hid ((HV1.out.later hb).conv)
      have HC2 := Lib.hid ((HV2'.out.later hb).conv)
      have HV3' := Lib.hid (HV3.out.later hb)
      have HV4 := Lib.hid hS
      clear hS hb HL9 HK9 HV1 HV2' HV3 d9 c1 c2
      go_wp2_with (first | (refine wpList_valueG (by rfl) (exec_convV (x := .tmp 157) rfl rfl HC1.out) ?_) | (refine wpList_valueG (by rfl) (exec_convV (x := .tmp 159) rfl rfl HC2.out) ?_))
      refine (num_er HE1.out w10 (HG.out w10 HL10.out.b)).mono ?_
      rintro e w11 ⟨rfl, hb⟩
      have HL11 := Lib.hid (HL10.out.later hb)
      have HC3 := Lib.hid ((HV3'.out.later hb).conv)
      have HC4 := Lib.hid ((HV4.out.later hb).conv)
      clear hb HL10 HC1 HC2 HV3' HV4
      go_wp2_with (first | (refine wpList_valueG (by rfl) (exec_convV (x := .tmp 170) rfl rfl HC3.out) ?_) | (refine wpList_valueG (by rfl) (exec_convV (x := .tmp 172) rfl rfl HC4.out) ?_))
      refine (num_er HE3.out w11 (HG.out w11 HL11.out.b)).mono ?_
      rintro e w13 ⟨rfl, hb⟩
      have HL13 := Lib.hid (HL11.out.later hb)
      clear hb HL11 HC3 HC4
      rcases Nat.eq_zero_or_pos n2 with h0 | h0
      · subst h0
        have HOQ := HOS.out w13 HL13.out.k HL13.out.b
        have c1 : w13.cell? ⟨w.heap.size, 1, none⟩ = some (.slice on nn cn) := by rw [Blk.cell HL13.out.s]; rfl
        have c2 : w13.cell? ⟨w.heap.size, 2, none⟩ = some (.slice oa na ca) := by rw [Blk.cell HL13.out.s]; rfl
        go_wp2_with fail
        refine HOQ.mono ?_
        rintro e w14 ⟨rfl, hK, hO⟩
        have HL14 := Lib.hid (HL13.out.own hO hK)
        clear hK hO HL13 c1 c2
        go_wp2_with fail
        refine (HSU.out w14 HL14.out.b).mono ?_
        rintro e w15 ⟨rfl, hb⟩
        have HB15 := Lib.hid (HL14.out.b.trans (hb.mono HL14.out.b.size))
        clear hb
        go_wp2_with fail
        go_ret
        exact ⟨rfl, HB15.out⟩
      · have t1 : ¬ (n2 : Int) = 0 := by omega
        have t2 : ¬ n2 = 0 := by omega
        have t3 : decide (n2 = 0) = false := decide_eq_false t2
        have t4 : decide ((n2 : Int) = 0) = false := decide_eq_false t1
        have t5 : ((n2 : Int) == 0) = false := by simp only [beq_eq_false_iff_ne]; exact t1
        have HOQ := HOS.out w13 HL13.out.k HL13.out.b
        have c1 : w13.cell? ⟨w.heap.size, 1, none⟩ = some (.slice on nn cn) := by rw [Blk.cell HL13.out.s]; rfl
        have c2 : w13.cell? ⟨w.heap.size, 2, none⟩ = some (.slice oa na ca) := by rw [Blk.cell HL13.out.s]; rfl
        go_wp2_with fail
        refine HOQ.mono ?_
        rintro e w14 ⟨rfl, hK, hO⟩
        have HL14 := Lib.hid (HL13.out.own hO hK)
        clear hK hO HL13 c1 c2
        go_wp2_with fail
        refine (HSU.out w14 HL14.out.b).mono ?_
        rintro e w15 ⟨rfl, hb⟩
        have HB15 := Lib.hid (HL14.out.b.trans (hb.mono HL14.out.b.size))
        clear hb
        go_wp2_with fail
        go_ret
        exact ⟨rfl, HB15.out⟩
end Go.Proofs.YtkcbckafibjflaaGreatDoor
