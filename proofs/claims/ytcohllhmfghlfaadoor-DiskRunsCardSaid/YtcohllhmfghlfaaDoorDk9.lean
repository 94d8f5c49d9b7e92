/- A disk: what is kept behind a crash. -/
import Derived.Test.YtcohllhmfghlfaaDoorDk8
namespace Go.Proofs.YtcohllhmfghlfaaDoor
set_option linter.unusedVariables false
set_option linter.unusedSimpArgs false
open Go.RowKit

theorem stF_congr {S : Nat → Nat → Nat} {A A' : Nat → Nat} {D D' : Nat → Nat → Nat} {kp : Nat → Bool} : ∀ (m : Nat), (∀ j, j < m → A j = A' j ∧ D j = D' j) → stF S A D kp m = stF S A' D' kp m
  | 0, _ => rfl
  | m + 1, h => by
    have h1 := stF_congr (S := S) (kp := kp) m (fun j hj => h j (by omega))
    obtain ⟨h2, h3⟩ := h m (Nat.lt_succ_self _)
    show (if kp m = true then updF (stF S A D kp m) (A m) (D m) else stF S A D kp m) = (if kp m = true then updF (stF S A' D' kp m) (A' m) (D' m) else stF S A' D' kp m)
    rw [h1, h2, h3]
theorem DK.own {w w' : World} {B d sb c : Nat} {v : Value} {s : DS} (h : DK w B d sb v s) (hO : Own c w w') (h1 : c ≠ d) (h2 : c ≠ sb) (h3 : v.ownBlock ≠ some c) : DK w' B d sb v s := by
  refine ⟨hO.blk h.me (Ne.symm h1), hO.blk h.sf (Ne.symm h2), ⟨h.wt.1, ?_⟩, h.bd, h.bs, h.ne, h.nv, h.n0, h.S8, h.D8, h.ab, h.nb⟩
  rcases h.wt.2 with e | ⟨g, cap, cur, e, hb, hh, r⟩
  · exact .inl e
  · refine .inr ⟨g, cap, cur, e, hb, ?_, r⟩
    rw [hO.block g (lt_of_block hh) (fun e2 => h3 (by rw [e, ← e2]; rfl))]; exact hh
/-- The disk's numbers: i writes wait; a sector will hold its first byte. -/
def KF (s : DS) (kp : Nat → Bool) (i : Nat) (T : Nat → Nat) : Prop := s.n = 8 ∧ s.nw = i ∧ s.ar = 0 ∧ s.dn = false ∧ ∀ j, j < 8 → stF s.S s.A s.D kp i j = secF 1 (fun _ => T j)
def KG (gw d sb : Nat) (v : Value) : Prop := gw ≠ d ∧ gw ≠ sb ∧ v.ownBlock ≠ some gw
def KI (w : World) (d sb gw : Nat) (kp : Nat → Bool) (i : Nat) (W T : Nat → Nat) (A : World) : Prop := ∃ v s, DX w d sb v s A ∧ KF s kp i T ∧ KG gw d sb v ∧ Row A gw 8 W
theorem KI.below {w A : World} {d sb gw i : Nat} {kp : Nat → Bool} {W T : Nat → Nat} (h : KI w d sb gw kp i W T A) : Below w.heap.size w A := by
  obtain ⟨v, s, h1, _⟩ := h; exact h1.2
theorem KI.later {w A A' : World} {d sb gw i : Nat} {kp : Nat → Bool} {W T : Nat → Nat} (h : KI w d sb gw kp i W T A) (hb : Below A.heap.size A A') : KI w d sb gw kp i W T A' := by
  obtain ⟨v, s, h1, h2, h3, h4⟩ := h
  exact ⟨v, s, h1.later hb, h2, h3, h4.later hb⟩
theorem KI.row {w A : World} {d sb gw i : Nat} {kp : Nat → Bool} {W T : Nat → Nat} (h : KI w d sb gw kp i W T A) : Row A gw 8 W := by
  obtain ⟨v, s, h1, h2, h3, h4⟩ := h; exact h4
theorem KI.store {w A : World} {d sb gw i : Nat} {kp : Nat → Bool} {W T : Nat → Nat} (h : KI w d sb gw kp i W T A) (hw : w.heap.size ≤ gw) (j y : Nat) : KI w d sb gw kp i (upd W j y) T (A.setCell ⟨gw, j, none⟩ (.int .u8 (y : Nat))) := by
  obtain ⟨v, s, h1, h2, h3, h4⟩ := h
  have hO : Own gw A (A.setCell ⟨gw, j, none⟩ (.int .u8 (y : Nat))) := (Own.refl _ _).set _ _
  exact ⟨v, s, ⟨h1.1.own hO h3.1 h3.2.1 h3.2.2, h1.2.trans (hO.below hw h1.2.size)⟩, h2, h3, h4.set j y⟩
theorem write_KI {w A A0 : World} {d sb gw i j pb y : Nat} {kp : Nat → Bool} {v : Value} {s : DS} {W T : Nat → Nat} (h0 : DX w d sb v s A0) (h : DX w d sb v s A) (hf : KF s kp i T) (hg : KG gw d sb v) (hW : Row A gw 8 W) (hp : A0.heap.size ≤ pb) (hj : j < 8) (hi : i < 1000) (hF : Row A pb 64 (secF 1 (fun _ => y))) (hy : y < 256) :
    Calls Tryd.prog 10 #[.pointer (some ⟨d, 0, none⟩), .int .i64 (j : Int), .slice (some ⟨pb, 0, none⟩) 64 64] A fun e A' => e = .returned .nilIface ∧ KI w d sb gw kp (i + 1) W (if kp i = true then upd T j y else T) A' := by
  obtain ⟨f1, f2, f3, f4, f5⟩ := hf
  have hu : (stepS s).dn = false := by show (s.dn || decide (s.ar = 1)) = false; rw [f3, f4]; rfl
  refine (write_any h.1 j pb 0 64 (secF 1 (fun _ => y)) (by rw [f1]; exact hj) (hF.bytes (secF_lt fun _ _ => hy)) (by omega) (h0.1.fresh hp)).mono ?_
  rintro e A' ⟨rfl, v', hn⟩
  rw [hu] at hn ⊢
  refine ⟨rfl, v', _, h.dn hn, ⟨f1, by show s.nw + 1 = i + 1; rw [f2], by show s.ar - 1 = 0; rw [f3], hu, fun t ht => ?_⟩, ⟨hg.1, hg.2.1, fun e => ?_⟩, hn.ot.blk hW hg.1 hg.2.1 hg.2.2⟩
  · have e1 : stF s.S (fun j' => if j' = s.nw then j else s.A j') (fun j' => if j' = s.nw then secF 1 (fun _ => y) else s.D j') kp i = stF s.S s.A s.D kp i :=
      stF_congr i (fun q hq => by rw [f2]; exact ⟨if_neg (by omega), if_neg (by omega)⟩)
    show (if kp i = true then updF (stF s.S (fun j' => if j' = s.nw then j else s.A j') (fun j' => if j' = s.nw then secF 1 (fun _ => y) else s.D j') kp i) (if i = s.nw then j else s.A i) (if i = s.nw then secF 1 (fun _ => y) else s.D i)
      else stF s.S (fun j' => if j' = s.nw then j else s.A j') (fun j' => if j' = s.nw then secF 1 (fun _ => y) else s.D j') kp i) t = _
    rw [e1, if_pos f2.symm, if_pos f2.symm]
    cases hk : kp i with
    | true =>
      rw [if_pos rfl, if_pos rfl]
      show (if t = j then secF 1 (fun _ => y) else stF s.S s.A s.D kp i t) = secF 1 (fun _ => if t = j then y else T t)
      by_cases e : t = j
      · rw [if_pos e]
        simp only [if_pos e]
      · rw [if_neg e]
        simp only [if_neg e]
        exact f5 t ht
    | false =>
      rw [if_neg (by decide), if_neg (by decide)]
      exact f5 t ht
  · rcases hn.nx gw e with h1 | h1
    · exact hg.2.2 h1
    · have := Row.lt hW; omega
theorem sync_KI {w A : World} {d sb gw i : Nat} {kp : Nat → Bool} {W T : Nat → Nat} (h : KI w d sb gw allK i W T A) :
    Calls Tryd.prog 9 #[.pointer (some ⟨d, 0, none⟩)] A fun e A' => e = .returned .nilIface ∧ KI w d sb gw kp 0 W T A' := by
  obtain ⟨v, s, h1, ⟨f1, f2, f3, f4, f5⟩, hg, hW⟩ := h
  have hu : (stepS s).dn = false := by show (s.dn || decide (s.ar = 1)) = false; rw [f3, f4]; rfl
  refine (sync_any h1.1).mono ?_
  rintro e A' ⟨rfl, v', hn⟩
  rw [hu] at hn ⊢
  refine ⟨rfl, v', _, h1.dn hn, ⟨f1, rfl, by show s.ar - 1 = 0; rw [f3], hu, fun t ht => ?_⟩, ⟨hg.1, hg.2.1, fun e => ?_⟩, hn.ot.blk hW hg.1 hg.2.1 hg.2.2⟩
  · show stF s.S s.A s.D allK s.nw t = _
    rw [f2]; exact f5 t ht
  · rcases hn.nx gw e with h1 | h1
    · exact hg.2.2 h1
    · have := Row.lt hW; omega
theorem crash_KI {w A : World} {d sb gw i nk ck : Nat} {ok : Option Addr} {fk : Nat → Bool} {kp : Nat → Bool} {W T : Nat → Nat} (h : KI w d sb gw (keepP nk fk) i W T A) (hB : Bools w ok nk fk) (hnk : nk ≤ maxLen) :
    Calls Tryd.prog 14 #[.pointer (some ⟨d, 0, none⟩), .slice ok nk ck] A fun e A' => (∃ x, e = .returned x) ∧ KI w d sb gw kp 0 W T A' := by
  obtain ⟨v, s, h1, ⟨f1, f2, f3, f4, f5⟩, hg, hW⟩ := h
  have hB' : Bools A ok nk fk := fun k hk => by
    obtain ⟨b, off, h2, h3⟩ := hB k hk
    exact ⟨b, off, h2, cell_below h1.2 h3⟩
  refine (crash_any h1.1 nk ck ok fk hB' (fun a ha h0 => by obtain ⟨b, off, h2, h3⟩ := hB 0 h0; rw [h2] at ha; cases ha; exact World.block_lt_of_cell? _ _ h3) hnk).mono ?_
  rintro e A' ⟨hx, hn⟩
  refine ⟨hx, _, _, h1.dn hn, ⟨f1, rfl, rfl, rfl, fun t ht => ?_⟩, ⟨hg.1, hg.2.1, fun e => ?_⟩, hn.ot.blk hW hg.1 hg.2.1 hg.2.2⟩
  · show stF s.S s.A s.D (keepP nk fk) s.nw t = _
    rw [f2]; exact f5 t ht
  · rcases hn.nx gw e with h1 | h1
    · exact hg.2.2 h1
    · have := Row.lt hW; omega
theorem read_KI {w A : World} {d sb gw j : Nat} {kp : Nat → Bool} {W T : Nat → Nat} (h : KI w d sb gw kp 0 W T A) (hj : j < 8) :
    Calls Tryd.prog 16 #[.pointer (some ⟨d, 0, none⟩), .int .i64 (j : Int)] A fun e A' => ∃ od c, e = .returned (.tuple #[.slice od 64 c, .nilIface]) ∧ Bytes A' od 64 (secF 1 (fun _ => T j)) ∧ (od = none → 64 = 0) ∧ Below A.heap.size A A' := by
  obtain ⟨v, s, h1, ⟨f1, f2, f3, f4, f5⟩, hg, hW⟩ := h
  refine (read_any (i := j) h1.1 (by rw [f1]; exact hj)).mono ?_
  rintro e A' ⟨hb, (⟨h, _⟩ | ⟨_, od, cq, rfl, g1, g2, g3, g4⟩)⟩
  · rw [f4] at h; cases h
  · have e1 : curF s.S s.A s.D s.nw j = secF 1 (fun _ => T j) := by rw [f2]; exact f5 j hj
    rw [e1] at g4
    exact ⟨od, cq, rfl, g4, (fun e => by obtain ⟨_, b, off, e2, _⟩ := g4 0 (by decide); rw [e] at e2; cases e2), hb⟩
theorem waits_KI {w A : World} {d sb gw i : Nat} {kp : Nat → Bool} {W T : Nat → Nat} (h : KI w d sb gw kp i W T A) :
    Calls Tryd.prog 15 #[.pointer (some ⟨d, 0, none⟩)] A fun e A' => e = .returned (.int .i64 (i : Int)) ∧ A = A' := by
  obtain ⟨v, s, h1, ⟨f1, f2, f3, f4, f5⟩, hg, hW⟩ := h
  refine (waits_any h1.1).mono ?_
  rintro e A' ⟨rfl, rfl⟩
  rw [f2]; exact ⟨rfl, rfl⟩
theorem down_KI {w A : World} {d sb gw i : Nat} {kp : Nat → Bool} {W T : Nat → Nat} (h : KI w d sb gw kp i W T A) :
    Calls Tryd.prog 13 #[.pointer (some ⟨d, 0, none⟩)] A fun e A' => e = .returned (.bool false) ∧ A = A' := by
  obtain ⟨v, s, h1, ⟨f1, f2, f3, f4, f5⟩, hg, hW⟩ := h
  refine (down_any h1.1).mono ?_
  rintro e A' ⟨rfl, rfl⟩
  rw [f4]; exact ⟨rfl, rfl⟩
end Go.Proofs.YtcohllhmfghlfaaDoor
