/- The request of bytes. -/
import Derived.Test.YtmabhjifldafaaaDoorRq3
import Derived.Test.YtmabhjifldafaaaDoorRq7
import Derived.Test.YtmabhjifldafaaaDoorWi5
namespace Go.Proofs.YtmabhjifldafaaaDoor
set_option linter.unusedVariables false
set_option linter.unusedSimpArgs false
open Go.RowKit

/-- Bytes ask for something. -/
def DQ (n : Nat) (B : Nat → Nat) : Prop := Fits n B ∧ 3 ≤ B 0 ∧ fl B 0 = 1 ∧ MB (dG B 0 0 : Nat) (fl B 1) (strF (fl B 2) (dG B 2)) (B 0 - 3)
instance (n : Nat) (B : Nat → Nat) : Decidable (DQ n B) := by unfold DQ; infer_instance
def dqE (n : Nat) (B : Nat → Nat) : Nat := if DQ n B then 0 else if Fits n B then 4 else if 1024 < n then 3 else 4
def qz (n : Nat) (B : Nat → Nat) : Nat := if DQ n B then dG B 0 0 else 0
def qn (n : Nat) (B : Nat → Nat) : Nat := if DQ n B then fl B 1 else 0
def qS (n : Nat) (B : Nat → Nat) : ByteArray := if DQ n B then strF (fl B 2) (dG B 2) else ⟨#[]⟩
def qq (n : Nat) (B : Nat → Nat) : Nat := if DQ n B then B 0 - 3 else 0
/-- A request by value. -/
def QV (w : World) (r : Value) (z : Int) (nt : Nat) (T : Nat → Nat) (S : ByteArray) (q : Nat) (L : Nat → Nat) (G : Nat → Nat → Nat) : Prop :=
  ∃ ot ct oa ca, r = .agg #[.int .i64 z, .slice ot nt ct, .string S, .slice oa q ca] ∧ Bytes w ot nt T ∧ (ot = none → nt = 0) ∧ nt ≤ ct ∧ ct ≤ maxLen ∧ LBs w oa q L G ∧ (oa = none → q = 0) ∧ q ≤ ca ∧ ca ≤ maxLen
theorem QV.later {w w' : World} {r : Value} {z : Int} {nt : Nat} {T : Nat → Nat} {S : ByteArray} {q : Nat} {L : Nat → Nat} {G : Nat → Nat → Nat} (h : QV w r z nt T S q L G) (hb : Below w.heap.size w w') : QV w' r z nt T S q L G := by
  obtain ⟨ot, ct, oa, ca, h1, h2, h3, h4, h5, h6, h7, h8, h9⟩ := h
  exact ⟨ot, ct, oa, ca, h1, h2.later hb, h3, h4, h5, h6.later hb, h7, h8, h9⟩
def zeroR : Array Value := #[.int .i64 0, .slice none 0 0, .string ⟨#[]⟩, .slice none 0 0]
theorem QV.zero (w : World) (T : Nat → Nat) (L : Nat → Nat) (G : Nat → Nat → Nat) : QV w (.agg zeroR) 0 0 T ⟨#[]⟩ 0 L G :=
  ⟨none, 0, none, 0, rfl, fun k hk => absurd hk (Nat.not_lt_zero _), fun _ => rfl, Nat.le_refl _, by unfold maxLen; omega, LBs.zero _ _ _ _, fun _ => rfl, Nat.le_refl _, by unfold maxLen; omega⟩
theorem zeroR_run (w : World) : (zeroValue 44).run Tryd.prog w = .ok (.agg zeroR) w := by kernel_rfl
theorem zeroR_run2 (w : World) : (zeroValue 36).run Tryd.prog w = .ok (.agg zeroR) w := by kernel_rfl
theorem zeroR_one : zeroR.all (·.oneCell') = true := by simp [zeroR, Value.oneCell']
theorem buildR (z : Int) (o1 o2 : Option Addr) (n1 c1 n2 c2 : Nat) (S : ByteArray) (w : World) : (Instr.build 44 #[(0, .int .i64 z), (1, .slice o1 n1 c1), (2, .string S), (3, .slice o2 n2 c2)]).run Tryd.prog w = .ok (.agg #[.int .i64 z, .slice o1 n1 c1, .string S, .slice o2 n2 c2]) w :=
  run_build w 44 _ _ (by kernel_rfl)
theorem buildR2 (z : Int) (o1 o2 : Option Addr) (n1 c1 n2 c2 : Nat) (S : ByteArray) (w : World) : (Instr.build 36 #[(0, .int .i64 z), (1, .slice o1 n1 c1), (2, .string S), (3, .slice o2 n2 c2)]).run Tryd.prog w = .ok (.agg #[.int .i64 z, .slice o1 n1 c1, .string S, .slice o2 n2 c2]) w :=
  run_build w 36 _ _ (by kernel_rfl)
theorem exec_buildM {o : Oper} {a : Act} {w : World} {ty : TypeId} {C : Array Value} {parts : Array (Nat × Operand)} {ps : Array (Nat × Value)} (ho : o.op = .build ty parts) (hp : (parts.map fun (i, x) => (i, a.eval x)) = ps) (h : ∀ w, (Instr.build ty ps).run Tryd.prog w = .ok (.agg C) w) : (execOp a.eval o).run Tryd.prog w = .ok (.value (.agg C)) w := by
  unfold execOp
  simp only [ho, hp, Sem.run_bind, h, Result.andThen_ok]
  rfl
theorem infoR (C : Array Value) (h : C.size = 4) : (Tryd.prog.info? 44).map (·.size) = some C.size := by rw [h]; kernel_rfl
theorem infoR2 (C : Array Value) (h : C.size = 4) : (Tryd.prog.info? 36).map (·.size) = some C.size := by rw [h]; kernel_rfl
theorem zeroR_sl (k : Nat) (a : Addr) (n c : Nat) : zeroR[k]? ≠ some (Value.slice (some a) n c) := by
  intro h
  match k, h with
  | 0, h => cases h
  | 1, h => cases h
  | 2, h => cases h
  | 3, h => cases h
theorem zeroR_u8 (k : Nat) (x : Int) : zeroR[k]? ≠ some (Value.int .u8 x) := by
  intro h
  match k, h with
  | 0, h => cases h
  | 1, h => cases h
  | 2, h => cases h
  | 3, h => cases h
theorem cell_lt {w : World} {b k : Nat} {v : Value} (h : w.cell? ⟨b, k, none⟩ = some v) : b < w.heap.size := by
  rcases Nat.lt_or_ge b w.heap.size with h' | h'
  · exact h'
  · simp [World.cell?, Array.getElem?_eq_none h'] at h
theorem one4 (a b c d : Value) (h : a.oneCell' = true ∧ b.oneCell' = true ∧ c.oneCell' = true ∧ d.oneCell' = true) : #[a, b, c, d].all (·.oneCell') = true := by simp [h]
/-- What is there while a request is read. -/
structure DF (w0 : World) (g : Nat) (t : TypeId) (b off m : Nat) (L : Nat → Nat) (G : Nat → Nat → Nat) (b0 f0 p0 k : Nat) (o1 : Option Addr) (p1 : Nat) (o2 : Option Addr) (p2 : Nat) (wr : World) : Prop where
  l : LBs wr (some ⟨b, off, none⟩) m L G
  c0 : wr.cell? ⟨b, off, none⟩ = some (.slice (some ⟨b0, f0, none⟩) 1 p0)
  x0 : wr.cell? ⟨b0, f0, none⟩ = some (.int .u8 (k : Nat))
  c1 : wr.cell? ⟨b, off + 1, none⟩ = some (.slice o1 (L 1) p1)
  v1 : Bytes wr o1 (L 1) (G 1) ∧ (o1 = none → L 1 = 0) ∧ L 1 ≤ p1 ∧ p1 ≤ maxLen
  c2 : wr.cell? ⟨b, off + 2, none⟩ = some (.slice o2 (L 2) p2)
  v2 : CV wr o2 (L 2) (strF (L 2) (G 2))
  r : Blk wr g zeroR t
  o : Below w0.heap.size w0 wr
theorem DF.later {w0 wr w' : World} {g : Nat} {t : TypeId} {b off m : Nat} {L : Nat → Nat} {G : Nat → Nat → Nat} {b0 f0 p0 k : Nat} {o1 : Option Addr} {p1 : Nat} {o2 : Option Addr} {p2 : Nat} (h : DF w0 g t b off m L G b0 f0 p0 k o1 p1 o2 p2 wr) (hb : Below wr.heap.size wr w') : DF w0 g t b off m L G b0 f0 p0 k o1 p1 o2 p2 w' :=
  ⟨h.l.later hb, cell_below hb h.c0, cell_below hb h.x0, cell_below hb h.c1, ⟨h.v1.1.later hb, h.v1.2⟩, cell_below hb h.c2, h.v2.later hb, Blk.below h.r hb (Blk.lt h.r), h.o.trans (hb.mono h.o.size)⟩
/-- The new struct's block lies apart. -/
theorem DF.own {w0 wr w' : World} {g : Nat} {t : TypeId} {b off m : Nat} {L : Nat → Nat} {G : Nat → Nat → Nat} {b0 f0 p0 k : Nat} {o1 : Option Addr} {p1 : Nat} {o2 : Option Addr} {p2 B c : Nat} (h : DF w0 g t b off m L G b0 f0 p0 k o1 p1 o2 p2 wr)
    (hO : Own c wr w') (hc : B ≤ c) (hl : ∀ w'', Below B wr w'' → DF w0 g t b off m L G b0 f0 p0 k o1 p1 o2 p2 w'') (hs : B ≤ wr.heap.size) : DF w0 g t b off m L G b0 f0 p0 k o1 p1 o2 p2 w' := hl _ (hO.below hc hs)
set_option maxRecDepth 100000 in
set_option maxHeartbeats 8000000 in
theorem dec_q (ob : Option Addr) (n cap : Nat) (B : Nat → Nat) (w : World) (hB : Bytes w ob n B) (hc : n ≤ cap) (hm : cap ≤ maxLen) :
    Calls Tryd.prog 24 #[.slice ob n cap] w fun e w' => ∃ r v, e = .returned (.tuple #[r, v]) ∧ QV w' r (qz n B) (qn n B) (dG B 1) (qS n B) (qq n B) (fun i => fl B (3 + i)) (fun i => dG B (3 + i)) ∧ Er v (dqE n B) ∧ Below w.heap.size w w' := by
  have hz := zeroR_run
  obtain ⟨wa, hwa⟩ : ∃ x, w.alloc (.cells zeroR 44) = x := ⟨_, rfl⟩
  have hba : Below w.heap.size w wa := by rw [← hwa]; exact (Below.refl _ _).alloc (Nat.le_refl _) _
  have HA : Hid (Blk wa w.heap.size zeroR 44 ∧ Below w.heap.size w wa) := Lib.hid ⟨by rw [← hwa]; exact Blk.new _ _ _, hba⟩
  have HD := Lib.hid (dec_any ob n cap B wa (hB.later hba) hc hm)
  have HBB : Hid (∀ k, k < n → B k < 256) := Lib.hid fun k hk => (hB k hk).1
  clear hba hB hc hm
  go_enter Tryd.func24, Tryd.ntmps24
  go_wp2_with fail
  refine HD.out.mono ?_
  clear HD
  rintro e w1 ⟨hb1, hr1⟩
  have H1 : Hid (Blk w1 w.heap.size zeroR 44 ∧ Below w.heap.size w w1) := Lib.hid ⟨Blk.below HA.out.1 hb1 (Blk.lt HA.out.1), HA.out.2.trans (hb1.mono HA.out.2.size)⟩
  clear hb1 HA hwa
  rcases hr1 with ⟨hf, oa, c, rfl, hl, hno, hcc, hcm⟩ | ⟨hbig, rfl⟩ | ⟨hsm, hnf, rfl⟩
  case inr.inl =>
    have hd : ¬ DQ n B := fun h => by have := h.1.2.1; omega
    have HQ : Hid (qz n B = 0 ∧ qn n B = 0 ∧ qS n B = ⟨#[]⟩ ∧ qq n B = 0 ∧ dqE n B = 3) := Lib.hid ⟨if_neg hd, if_neg hd, if_neg hd, if_neg hd, by unfold dqE; rw [if_neg hd]; rw [if_neg (fun h => by have := h.2.1; omega), if_pos hbig]⟩
    clear hd
    clear hbig
    have HX : Hid (Blk (w1.setCells w.heap.size 0 zeroR.toList) w.heap.size zeroR 44 ∧ w1.there w.heap.size 0 zeroR.size ∧ Below w.heap.size w (w1.setCells w.heap.size 0 zeroR.toList)) := Lib.hid ⟨Blk.whole H1.out.1 rfl, Blk.thereAll H1.out.1 _ (Nat.le_refl _), H1.out.2.trans ((Own.setCells _ 0 _).below (Nat.le_refl _) H1.out.2.size)⟩
    go_wp2_with (first | (refine wpList_store_mid rfl 44 (.tmp 2) (.tmp 14) rfl w.heap.size 0 zeroR rfl rfl HX.out.2.1 (infoR _ rfl) zeroR_one ?_))
    refine bodyPost_ret (v := .tuple #[.agg zeroR, (.iface 118 (.int .i64 3))]) ?_ ?_ ?_
    · exact results_cell_tmp Tryd.results24 _ _ w.heap.size 44 zeroR (0, 0) _ rfl HX.out.1 Tryd.underlying44 rfl (infoR _ rfl)
    · rfl
    · (obtain ⟨q1, q2, q3, q4, q5⟩ := HQ.out; rw [q1, q2, q3, q4, q5]; exact ⟨.agg zeroR, (.iface 118 (.int .i64 3)), rfl, QV.zero _ _ _ _, .inr ⟨rfl, by decide⟩, HX.out.2.2⟩)
  case inr.inr =>
    have hd : ¬ DQ n B := fun h => hnf h.1
    have HQ : Hid (qz n B = 0 ∧ qn n B = 0 ∧ qS n B = ⟨#[]⟩ ∧ qq n B = 0 ∧ dqE n B = 4) := Lib.hid ⟨if_neg hd, if_neg hd, if_neg hd, if_neg hd, by unfold dqE; rw [if_neg hd]; rw [if_neg hnf, if_neg (by omega)]⟩
    clear hd
    clear hsm hnf
    have HX : Hid (Blk (w1.setCells w.heap.size 0 zeroR.toList) w.heap.size zeroR 44 ∧ w1.there w.heap.size 0 zeroR.size ∧ Below w.heap.size w (w1.setCells w.heap.size 0 zeroR.toList)) := Lib.hid ⟨Blk.whole H1.out.1 rfl, Blk.thereAll H1.out.1 _ (Nat.le_refl _), H1.out.2.trans ((Own.setCells _ 0 _).below (Nat.le_refl _) H1.out.2.size)⟩
    go_wp2_with (first | (refine wpList_store_mid rfl 44 (.tmp 2) (.tmp 14) rfl w.heap.size 0 zeroR rfl rfl HX.out.2.1 (infoR _ rfl) zeroR_one ?_))
    refine bodyPost_ret (v := .tuple #[.agg zeroR, (.iface 118 (.int .i64 4))]) ?_ ?_ ?_
    · exact results_cell_tmp Tryd.results24 _ _ w.heap.size 44 zeroR (0, 0) _ rfl HX.out.1 Tryd.underlying44 rfl (infoR _ rfl)
    · rfl
    · (obtain ⟨q1, q2, q3, q4, q5⟩ := HQ.out; rw [q1, q2, q3, q4, q5]; exact ⟨.agg zeroR, (.iface 118 (.int .i64 4)), rfl, QV.zero _ _ _ _, .inr ⟨rfl, by decide⟩, HX.out.2.2⟩)
  case inl =>
    have HF := Lib.hid hf
    obtain ⟨m, hmE⟩ : ∃ m, B 0 = m := ⟨_, rfl⟩
    have HM : Hid (B 0 = m ∧ m ≤ 16) := Lib.hid ⟨hmE, by have := hf.2.2.1; omega⟩
    rw [hmE] at hl hno hcc ⊢
    by_cases h3 : m < 3
    · have g1 : (m : Int) < 3 := by omega
      have hd : ¬ DQ n B := fun h => by have := h.2.1; omega
      have HQ : Hid (qz n B = 0 ∧ qn n B = 0 ∧ qS n B = ⟨#[]⟩ ∧ qq n B = 0 ∧ dqE n B = 4) := Lib.hid ⟨if_neg hd, if_neg hd, if_neg hd, if_neg hd, by unfold dqE; rw [if_neg hd]; rw [if_pos hf]⟩
      clear hd
      clear hf hl hno hcc hcm hmE h3
      have HX : Hid (Blk (w1.setCells w.heap.size 0 zeroR.toList) w.heap.size zeroR 44 ∧ w1.there w.heap.size 0 zeroR.size ∧ Below w.heap.size w (w1.setCells w.heap.size 0 zeroR.toList)) := Lib.hid ⟨Blk.whole H1.out.1 rfl, Blk.thereAll H1.out.1 _ (Nat.le_refl _), H1.out.2.trans ((Own.setCells _ 0 _).below (Nat.le_refl _) H1.out.2.size)⟩
      go_wp2_with (first | (refine wpList_store_mid rfl 44 (.tmp 2) (.tmp 26) rfl w.heap.size 0 zeroR rfl rfl HX.out.2.1 (infoR _ rfl) zeroR_one ?_))
      refine bodyPost_ret (v := .tuple #[.agg zeroR, (.iface 118 (.int .i64 4))]) ?_ ?_ ?_
      · exact results_cell_tmp Tryd.results24 _ _ w.heap.size 44 zeroR (0, 0) _ rfl HX.out.1 Tryd.underlying44 rfl (infoR _ rfl)
      · rfl
      · (obtain ⟨q1, q2, q3, q4, q5⟩ := HQ.out; rw [q1, q2, q3, q4, q5]; exact ⟨.agg zeroR, (.iface 118 (.int .i64 4)), rfl, QV.zero _ _ _ _, .inr ⟨rfl, by decide⟩, HX.out.2.2⟩)
    · have g1 : ¬ (m : Int) < 3 := by omega
      have g1' : decide ((m : Int) < 3) = false := decide_eq_false g1
      obtain ⟨b, off, od0, p0, rfl, hc0, hlp0, hB0, hn0, hm0⟩ := hl 0 (by omega)
      obtain ⟨_, _, o1, p1, e1, hc1, hlp1, hB1, hn1, hm1⟩ := hl 1 (by omega)
      cases e1
      obtain ⟨_, _, o2, p2, e2, hc2, hlp2, hB2, hn2, hm2⟩ := hl 2 (by omega)
      cases e2
      obtain ⟨y, hy⟩ : ∃ y, fl B 0 = y := ⟨_, rfl⟩
      rw [hy] at hc0 hlp0 hB0 hn0
      have y9 : (y : Int) ≤ 9223372036854775807 := by unfold maxLen at hm0; omega
      have g2 : (0 : Int) < (m : Int) := by omega
      have g3 : 0 < m := by omega
      have g4 : (1 : Int) < (m : Int) := by omega
      have g5 : 1 < m := by omega
      have g6 : (2 : Int) < (m : Int) := by omega
      have g7 : 2 < m := by omega
      have c0 : w1.cell? ⟨b, off, none⟩ = some (.slice od0 y p0) := hc0
      by_cases h1 : y = 1
      case neg =>
        have g8 : ¬ (y : Int) = 1 := by omega
        have hd : ¬ DQ n B := fun h => h1 (by have := h.2.2.1; omega)
        have HQ : Hid (qz n B = 0 ∧ qn n B = 0 ∧ qS n B = ⟨#[]⟩ ∧ qq n B = 0 ∧ dqE n B = 4) := Lib.hid ⟨if_neg hd, if_neg hd, if_neg hd, if_neg hd, by unfold dqE; rw [if_neg hd]; rw [if_pos hf]⟩
        clear hd
        clear hf hl hno hcc hcm hmE h3 hc0 hc1 hc2 hlp0 hlp1 hlp2 hB0 hB1 hB2 hn0 hn1 hn2 hm0 hm1 hm2 h1 hy
        have HX : Hid (Blk (w1.setCells w.heap.size 0 zeroR.toList) w.heap.size zeroR 44 ∧ w1.there w.heap.size 0 zeroR.size ∧ Below w.heap.size w (w1.setCells w.heap.size 0 zeroR.toList)) := Lib.hid ⟨Blk.whole H1.out.1 rfl, Blk.thereAll H1.out.1 _ (Nat.le_refl _), H1.out.2.trans ((Own.setCells _ 0 _).below (Nat.le_refl _) H1.out.2.size)⟩
        go_wp2_with (first | (refine wpList_store_mid rfl 44 (.tmp 2) (.tmp 26) rfl w.heap.size 0 zeroR rfl rfl HX.out.2.1 (infoR _ rfl) zeroR_one ?_))
        refine bodyPost_ret (v := .tuple #[.agg zeroR, (.iface 118 (.int .i64 4))]) ?_ ?_ ?_
        · exact results_cell_tmp Tryd.results24 _ _ w.heap.size 44 zeroR (0, 0) _ rfl HX.out.1 Tryd.underlying44 rfl (infoR _ rfl)
        · rfl
        · (obtain ⟨q1, q2, q3, q4, q5⟩ := HQ.out; rw [q1, q2, q3, q4, q5]; exact ⟨.agg zeroR, (.iface 118 (.int .i64 4)), rfl, QV.zero _ _ _ _, .inr ⟨rfl, by decide⟩, HX.out.2.2⟩)
      case pos =>
        subst h1
        obtain ⟨hk8, b0, f0, rfl, hx0⟩ := hB0 0 (by omega)
        obtain ⟨k, hk⟩ : ∃ k, dG B 0 0 = k := ⟨_, rfl⟩
        rw [hk] at hk8 hx0
        have HK : Hid (dG B 0 0 = k ∧ k < 256 ∧ fl B 0 = 1) := Lib.hid ⟨hk, hk8, hy⟩
        have hS1 : DF w w.heap.size 44 b off m (fl B) (dG B) b0 f0 p0 k o1 p1 o2 p2 w1 := ⟨hl, hc0, hx0, hc1, ⟨hB1, hn1, hlp1, hm1⟩, hc2, ⟨_, hB2, hn2, rfl⟩, H1.out.1, H1.out.2⟩
        have HMM : Hid (3 ≤ m ∧ m ≤ 16 ∧ m ≤ c ∧ c ≤ maxLen) := Lib.hid ⟨by omega, HM.out.2, hcc, hcm⟩
        have HLL : Hid (∀ i, i < m → fl B i ≤ 1024) := Lib.hid fun i hi => by have h1 := hf.at (i := i) (by rw [hmE]; exact hi); have := hf.2.1; omega
        have k1 : IntKind.i64.wrap (k : Int) = (k : Int) := IntWalk.i64_in _ (by omega)
        obtain ⟨d, hd⟩ : ∃ d, m - 3 = d := ⟨_, rfl⟩
        have HDD : Hid (3 + d = m) := Lib.hid (by omega)
        have HS1 := Lib.hid hS1
        obtain ⟨S2, hS2⟩ : ∃ S2, strF (fl B 2) (dG B 2) = S2 := ⟨_, rfl⟩
        have HS2 : Hid (strF (fl B 2) (dG B 2) = S2 ∧ S2.size = fl B 2) := Lib.hid ⟨hS2, by rw [← hS2]; exact strF_size _ _⟩
        clear hf hl hno hcc hcm hmE h3 hc0 hc1 hc2 hlp0 hlp1 hlp2 hB0 hB1 hB2 hn0 hn1 hn2 hm0 hm1 hm2 hy hk8 hx0 hk hS1 hd hS2
        go_wp2_with fail
        have hS_0 := HS1.out.later (Below.refl _ w1).drew
        clear HS1 c0
        refine wp_region_held_drew (S := (DF w w.heap.size 44 b off m (fl B) (dG B) b0 f0 p0 k o1 p1 o2 p2)) (by kernel_rfl) ?_ (fun hHeld => ?_)
        · (try dsimp only)
          first | assumption
        generalize w1.drew = W0 at *
        refine wpAnyH_take (i := 0) (oi := { dst := some 28, op := Go.Op.move (Go.Operand.tmp 4), type := 34, pos := "request.go:160", after := #[], guard := none }) (v := ?_) rfl (by kernel_rfl) (by kernel_rfl) (by kernel_rfl) (fun _ _ _ h => h) (Or.inl ⟨by rfl, ?_⟩) (by assumption) ?_
        rotate_left
        · intro wS hSw
          (try dsimp only at hSw)
          go_simp
          (try with_reducible rfl)
        (try simp only [Act.put, List.setIfInBounds_toArray, List.set_cons_zero, List.set_cons_succ])
        refine wpAnyH_take (i := 1) (oi := { dst := some 29, op := Go.Op.indexAddr 34 (Go.Operand.tmp 28) (Go.Operand.const (Go.Value.int Go.IntKind.i64 0)), type := 0, pos := "request.go:160", after := #[{ on := 0, ground := Go.Ground.data }], guard := none }) (v := ?_) rfl (by kernel_rfl) (by kernel_rfl) (by kernel_rfl) (fun _ _ _ h => h) (Or.inl ⟨by rfl, ?_⟩) (by assumption) ?_
        rotate_left
        · intro wS hSw
          (try dsimp only at hSw)
          go_simp
          (try with_reducible rfl)
        (try simp only [Act.put, List.setIfInBounds_toArray, List.set_cons_zero, List.set_cons_succ])
        refine wpAnyH_take (i := 2) (oi := { dst := some 30, op := Go.Op.load 33 (Go.Operand.tmp 29), type := 33, pos := "request.go:160", after := #[{ on := 1, ground := Go.Ground.data }], guard := none }) (v := ?_) rfl (by kernel_rfl) (by kernel_rfl) (by kernel_rfl) (fun _ _ _ h => h) (Or.inl ⟨by rfl, ?_⟩) (by assumption) ?_
        rotate_left
        · intro wS hSw
          (have h0 := hSw.c0; go_simp; (try with_reducible rfl))
        (try simp only [Act.put, List.setIfInBounds_toArray, List.set_cons_zero, List.set_cons_succ])
        refine wpAnyH_take (i := 3) (oi := { dst := some 31, op := Go.Op.indexAddr 33 (Go.Operand.tmp 30) (Go.Operand.const (Go.Value.int Go.IntKind.i64 0)), type := 0, pos := "request.go:160", after := #[{ on := 2, ground := Go.Ground.data }], guard := none }) (v := ?_) rfl (by kernel_rfl) (by kernel_rfl) (by kernel_rfl) (fun _ _ _ h => h) (Or.inl ⟨by rfl, ?_⟩) (by assumption) ?_
        rotate_left
        · intro wS hSw
          (try dsimp only at hSw)
          go_simp
          (try with_reducible rfl)
        (try simp only [Act.put, List.setIfInBounds_toArray, List.set_cons_zero, List.set_cons_succ])
        refine wpAnyH_take (i := 4) (oi := { dst := some 32, op := Go.Op.load 5 (Go.Operand.tmp 31), type := 5, pos := "request.go:160", after := #[{ on := 3, ground := Go.Ground.data }], guard := none }) (v := ?_) rfl (by kernel_rfl) (by kernel_rfl) (by kernel_rfl) (fun _ _ _ h => h) (Or.inl ⟨by rfl, ?_⟩) (by assumption) ?_
        rotate_left
        · intro wS hSw
          (have h0 := hSw.x0; go_simp; (try with_reducible rfl))
        (try simp only [Act.put, List.setIfInBounds_toArray, List.set_cons_zero, List.set_cons_succ])
        refine wpAnyH_take (i := 5) (oi := { dst := some 33, op := Go.Op.convert 5 3 (Go.Operand.tmp 32), type := 3, pos := "request.go:160", after := #[{ on := 4, ground := Go.Ground.data }], guard := none }) (v := ?_) rfl (by kernel_rfl) (by kernel_rfl) (by kernel_rfl) (fun _ _ _ h => h) (Or.inl ⟨by rfl, ?_⟩) (by assumption) ?_
        rotate_left
        · intro wS hSw
          (try dsimp only at hSw)
          go_simp
          (try with_reducible rfl)
        (try simp only [Act.put, List.setIfInBounds_toArray, List.set_cons_zero, List.set_cons_succ])
        refine wpAnyH_take (i := 6) (oi := { dst := some 34, op := Go.Op.move (Go.Operand.tmp 4), type := 34, pos := "request.go:160", after := #[], guard := none }) (v := ?_) rfl (by kernel_rfl) (by kernel_rfl) (by kernel_rfl) (fun _ _ _ h => h) (Or.inl ⟨by rfl, ?_⟩) (by assumption) ?_
        rotate_left
        · intro wS hSw
          (try dsimp only at hSw)
          go_simp
          (try with_reducible rfl)
        (try simp only [Act.put, List.setIfInBounds_toArray, List.set_cons_zero, List.set_cons_succ])
        refine wpAnyH_take (i := 7) (oi := { dst := some 35, op := Go.Op.indexAddr 34 (Go.Operand.tmp 34) (Go.Operand.const (Go.Value.int Go.IntKind.i64 1)), type := 0, pos := "request.go:160", after := #[{ on := 6, ground := Go.Ground.data }], guard := none }) (v := ?_) rfl (by kernel_rfl) (by kernel_rfl) (by kernel_rfl) (fun _ _ _ h => h) (Or.inl ⟨by rfl, ?_⟩) (by assumption) ?_
        rotate_left
        · intro wS hSw
          (try dsimp only at hSw)
          go_simp
          (try with_reducible rfl)
        (try simp only [Act.put, List.setIfInBounds_toArray, List.set_cons_zero, List.set_cons_succ])
        refine wpAnyH_take (i := 8) (oi := { dst := some 36, op := Go.Op.load 33 (Go.Operand.tmp 35), type := 33, pos := "request.go:160", after := #[{ on := 7, ground := Go.Ground.data }], guard := none }) (v := ?_) rfl (by kernel_rfl) (by kernel_rfl) (by kernel_rfl) (fun _ _ _ h => h) (Or.inl ⟨by rfl, ?_⟩) (by assumption) ?_
        rotate_left
        · intro wS hSw
          (have h0 := hSw.c1; go_simp; (try with_reducible rfl))
        (try simp only [Act.put, List.setIfInBounds_toArray, List.set_cons_zero, List.set_cons_succ])
        refine wpAnyH_take (i := 9) (oi := { dst := some 37, op := Go.Op.move (Go.Operand.tmp 4), type := 34, pos := "request.go:160", after := #[], guard := none }) (v := ?_) rfl (by kernel_rfl) (by kernel_rfl) (by kernel_rfl) (fun _ _ _ h => h) (Or.inl ⟨by rfl, ?_⟩) (by assumption) ?_
        rotate_left
        · intro wS hSw
          (try dsimp only at hSw)
          go_simp
          (try with_reducible rfl)
        (try simp only [Act.put, List.setIfInBounds_toArray, List.set_cons_zero, List.set_cons_succ])
        refine wpAnyH_take (i := 10) (oi := { dst := some 38, op := Go.Op.indexAddr 34 (Go.Operand.tmp 37) (Go.Operand.const (Go.Value.int Go.IntKind.i64 2)), type := 0, pos := "request.go:160", after := #[{ on := 9, ground := Go.Ground.data }], guard := none }) (v := ?_) rfl (by kernel_rfl) (by kernel_rfl) (by kernel_rfl) (fun _ _ _ h => h) (Or.inl ⟨by rfl, ?_⟩) (by assumption) ?_
        rotate_left
        · intro wS hSw
          (try dsimp only at hSw)
          go_simp
          (try with_reducible rfl)
        (try simp only [Act.put, List.setIfInBounds_toArray, List.set_cons_zero, List.set_cons_succ])
        refine wpAnyH_take (i := 11) (oi := { dst := some 39, op := Go.Op.load 33 (Go.Operand.tmp 38), type := 33, pos := "request.go:160", after := #[{ on := 10, ground := Go.Ground.data }], guard := none }) (v := ?_) rfl (by kernel_rfl) (by kernel_rfl) (by kernel_rfl) (fun _ _ _ h => h) (Or.inl ⟨by rfl, ?_⟩) (by assumption) ?_
        rotate_left
        · intro wS hSw
          (have h0 := hSw.c2; go_simp; (try with_reducible rfl))
        (try simp only [Act.put, List.setIfInBounds_toArray, List.set_cons_zero, List.set_cons_succ])
        refine wpAnyH_take (i := 12) (oi := { dst := some 40, op := Go.Op.convert 33 9 (Go.Operand.tmp 39), type := 9, pos := "request.go:160", after := #[{ on := 11, ground := Go.Ground.data }], guard := none }) (v := ?_) rfl (by kernel_rfl) (by kernel_rfl) (by kernel_rfl) (fun _ _ _ h => h) (Or.inl ⟨by rfl, ?_⟩) (by assumption) ?_
        rotate_left
        · intro wS hSw
          refine exec_convO (x := .tmp 39) (cap := p2) ?_ ?_ (HS2.out.1 ▸ hSw.v2.conv (c := p2)) <;> rfl
        (try simp only [Act.put, List.setIfInBounds_toArray, List.set_cons_zero, List.set_cons_succ])
        refine wpAnyH_take (i := 13) (oi := { dst := some 41, op := Go.Op.move (Go.Operand.tmp 4), type := 34, pos := "request.go:160", after := #[], guard := none }) (v := ?_) rfl (by kernel_rfl) (by kernel_rfl) (by kernel_rfl) (fun _ _ _ h => h) (Or.inl ⟨by rfl, ?_⟩) (by assumption) ?_
        rotate_left
        · intro wS hSw
          (try dsimp only at hSw)
          go_simp
          (try with_reducible rfl)
        (try simp only [Act.put, List.setIfInBounds_toArray, List.set_cons_zero, List.set_cons_succ])
        refine wpAnyH_ready (rs := [14, 16]) (by kernel_rfl) (by simp) ?_
        refine AllReadyH.cons (o := { dst := some 42, op := Go.Op.call { callee := Go.Callee.value (Go.Operand.func 70), args := #[Go.Operand.tmp 41, Go.Operand.const (Go.Value.int Go.IntKind.i64 3)], argTypes := #[34, 3] }, type := 34, pos := "request.go:160", after := #[{ on := 13, ground := Go.Ground.data }], guard := none }) rfl (fun K hK => ?_) ?_
        · skip
          go_simp
          (refine (rest_any b off m c 3 d (fl B) (dG B) _ hS_0.l HMM.out.2.2.1 HMM.out.2.2.2 HDD.out (by have := HMM.out; omega) (fun i hi => by have := HLL.out i hi; omega)).mono ?_; rintro e v_1 ⟨or, cr, rfl, hZ_1, hrn, hrc, hrm, hrl, hb_1⟩; have HR := Lib.hid (And.intro hrn (And.intro hrc hrm)); have hS_1 := hS_0.later hb_1; have HRW : Hid (∀ a, or = some a → 0 < d → a.block ≠ w.heap.size) := Lib.hid (fun a ha _ => by have h1 := hrl a ha; have h2 := Blk.lt hS_0.r; omega); clear hrn hrc hrm hrl hb_1 hS_0; skip)
          (try go_wp2_with fail)
          refine hK.out _ _ ?_ (fun hHeld => ?_)
          · (try dsimp only)
            first | assumption
          clear hK K
          (try simp only [Act.put, List.setIfInBounds_toArray, List.set_cons_zero, List.set_cons_succ])
          refine wpAnyH_take (i := 15) (oi := { dst := some 43, op := Go.Op.build 44 #[(0, Go.Operand.tmp 33), (1, Go.Operand.tmp 36), (2, Go.Operand.tmp 40), (3, Go.Operand.tmp 42)], type := 44, pos := "request.go:160", after := #[{ on := 5, ground := Go.Ground.data }, { on := 8, ground := Go.Ground.data }, { on := 12, ground := Go.Ground.data }, { on := 14, ground := Go.Ground.data }], guard := none }) (v := ?_) rfl (by kernel_rfl) (by kernel_rfl) (by kernel_rfl) (fun _ _ _ h => h) (Or.inl ⟨by rfl, ?_⟩) (by assumption) ?_
          rotate_left
          · intro wS hSw
            refine exec_buildM (parts := #[(0, .tmp 33), (1, .tmp 36), (2, .tmp 40), (3, .tmp 42)]) (ps := #[(0, .int .i64 k), (1, .slice o1 (fl B 1) p1), (2, .string S2), (3, .slice or d cr)]) ?_ ?_ (buildR _ _ _ _ _ _ _ _) <;> first | rfl | (simp; done) | (simp; rfl) | (simp; exact ⟨rfl, rfl, rfl, rfl⟩)
          (try simp only [Act.put, List.setIfInBounds_toArray, List.set_cons_zero, List.set_cons_succ])
          refine wpAnyH_ready (rs := [16]) (by kernel_rfl) (by simp) ?_
          refine AllReadyH.cons (o := { dst := some 6, op := Go.Op.alloc 44, type := 0, pos := "request.go:160", after := #[], guard := none }) rfl (fun K hK => ?_) AllReadyH.nil
          go_simp
          (obtain ⟨v_2, hw_2⟩ : ∃ q, v_1.alloc (.cells zeroR 44) = q := ⟨_, rfl⟩; rw [hw_2]; have hb_2 : Below v_1.heap.size v_1 v_2 := (by rw [← hw_2]; exact (Below.refl _ _).alloc (Nat.le_refl _) _); have hG_2 : Blk v_2 v_1.heap.size zeroR 44 := (by rw [← hw_2]; exact Blk.new _ _ _); have HKP : Hid (∀ w3, Below v_1.heap.size v_1 w3 → (DF w w.heap.size 44 b off m (fl B) (dG B) b0 f0 p0 k o1 p1 o2 p2) w3) := Lib.hid (fun w3 h => hS_1.later h); have hS_2 := hS_1.later hb_2; have hP_2 := hb_2; have HRL : Hid (∀ a, or = some a → 0 < d → a.block ≠ v_1.heap.size) := Lib.hid (fun a ha hd e => by have h1 := hZ_1 0 hd; obtain ⟨b9, off9, _, _, h2, h3, _⟩ := h1; rw [ha] at h2; cases h2; have h4 : b9 < v_1.heap.size := cell_lt h3; exact absurd e (Nat.ne_of_lt h4)); have hZ_2 := hZ_1.later hb_2; clear hZ_1; obtain ⟨gq, hgq⟩ : ∃ q, v_1.heap.size = q := ⟨_, rfl⟩; have HGO : Hid (w.heap.size < gq) := Lib.hid (by rw [← hgq]; exact Blk.lt hS_1.r); rw [hgq] at hG_2 HKP hP_2 HRL ⊢; clear hgq hb_2 hS_1 hw_2; skip)
          (try go_wp2_with fail)
          refine hK.out _ _ ?_ (fun hHeld => ?_)
          · (try dsimp only)
            first | assumption
          clear hK K
          (try simp only [Act.put, List.setIfInBounds_toArray, List.set_cons_zero, List.set_cons_succ])
          refine wpAnyH_ready (rs := [17]) (by kernel_rfl) (by simp) ?_
          refine AllReadyH.cons (o := { dst := none, op := Go.Op.store 44 (Go.Operand.tmp 6) (Go.Operand.tmp 43), type := 0, pos := "request.go:160", after := #[{ on := 16, ground := Go.Ground.data }, { on := 15, ground := Go.Ground.data }, { on := 14, ground := Go.Ground.chain }, { on := 0, ground := Go.Ground.phase }, { on := 1, ground := Go.Ground.phase }, { on := 2, ground := Go.Ground.phase }, { on := 3, ground := Go.Ground.phase }, { on := 4, ground := Go.Ground.phase }, { on := 5, ground := Go.Ground.phase }, { on := 6, ground := Go.Ground.phase }, { on := 7, ground := Go.Ground.phase }, { on := 8, ground := Go.Ground.phase }, { on := 9, ground := Go.Ground.phase }, { on := 10, ground := Go.Ground.phase }, { on := 11, ground := Go.Ground.phase }, { on := 12, ground := Go.Ground.phase }, { on := 13, ground := Go.Ground.phase }, { on := 14, ground := Go.Ground.phase }, { on := 15, ground := Go.Ground.phase }, { on := 16, ground := Go.Ground.phase }], guard := none }) rfl (fun K hK => ?_) AllReadyH.nil
          (refine step_storeM (by rfl) 44 (.tmp 6) (.tmp 43) rfl gq 0 #[.int .i64 (k : Int), .slice o1 (fl B 1) p1, .string S2, .slice or d cr] rfl rfl (Blk.thereAll hG_2 _ (Nat.le_refl 4)) (infoR _ rfl) (one4 _ _ _ _ ⟨rfl, rfl, rfl, rfl⟩) ?_; obtain ⟨v_3, hw_3⟩ : ∃ q, v_2.setCells gq 0 (#[.int .i64 (k : Int), .slice o1 (fl B 1) p1, .string S2, .slice or d cr] : Array Value).toList = q := ⟨_, rfl⟩; rw [hw_3]; have hO_3 : Own gq v_2 v_3 := (by rw [← hw_3]; exact Own.setCells _ 0 _); have hZ_3 := hZ_2.keep hO_3 HRL.out hG_2 (fun k x => zeroR_u8 k x); have hS_3 := HKP.out _ (hP_2.trans (hO_3.below (Nat.le_refl _) (Nat.le_of_lt (Blk.lt hG_2)))); have hG_3 : Blk v_3 gq #[.int .i64 (k : Int), .slice o1 (fl B 1) p1, .string S2, .slice or d cr] 44 := (by rw [← hw_3]; exact Blk.whole hG_2 rfl); clear hw_3 hG_2 hS_2 hZ_2 hP_2 hO_3 HKP; skip)
          refine hK.out _ _ ?_ (fun hHeld => ?_)
          · (try dsimp only)
            first | assumption
          clear hK K
          (try simp only [Act.put, List.setIfInBounds_toArray, List.set_cons_zero, List.set_cons_succ])
          refine wpAnyH_done (by kernel_rfl) ?_ _
          have HE := Lib.hid (And.intro hS_3 (And.intro hZ_3 hG_3))
          clear hS_3 hZ_3 hG_3 k1
          have HMAY := Lib.hid (may_any (k : Int) o1 or (fl B 1) p1 d cr S2 v_3 (by have := HK.out; omega) (by have := HK.out; omega) (by have := HE.out.1.v1; omega) (by have := HR.out; omega) (by rw [HS2.out.2]; have := HLL.out 2 (by have := HMM.out; omega); unfold maxLen; omega))
          have hmb : (decide (MB k (fl B 1) S2 d) = true ∧ DQ n B) ∨ (decide (MB k (fl B 1) S2 d) = false ∧ ¬ DQ n B) := by
            by_cases h : MB k (fl B 1) S2 d
            · exact .inl ⟨decide_eq_true h, HF.out, by rw [HM.out.1]; exact HMM.out.1, HK.out.2.2, by rw [HK.out.1, HM.out.1, HS2.out.1, show m - 3 = d by have := HDD.out; omega]; exact h⟩
            · exact .inr ⟨decide_eq_false h, fun h2 => h (by have h3 := h2.2.2.2; rw [HK.out.1, HM.out.1, HS2.out.1, show m - 3 = d by have := HDD.out; omega] at h3; exact h3)⟩
          rcases hmb with ⟨hmb, hdq⟩ | ⟨hmb, hdq⟩
          · rw [hmb] at HMAY
            have HQ : Hid (qz n B = k ∧ qn n B = fl B 1 ∧ qS n B = S2 ∧ qq n B = d ∧ dqE n B = 0) := Lib.hid ⟨by unfold qz; rw [if_pos hdq, HK.out.1], if_pos hdq, by unfold qS; rw [if_pos hdq, HS2.out.1], by unfold qq; rw [if_pos hdq, HM.out.1]; (try (have := HDD.out; omega)), if_pos hdq⟩
            clear hmb hdq
            go_wp2_with (first | (refine wpList_load_row rfl 44 (.tmp 6) rfl gq rfl 44 #[.int .i64 (k : Int), .slice o1 (fl B 1) p1, .string S2, .slice or d cr] (0, 0) _ HE.out.2.2 Tryd.underlying44 rfl (infoR _ rfl) ?_))
            refine HMAY.out.mono ?_
            clear HMAY
            rintro e y1 ⟨rfl, hb1⟩
            have HE1 : Hid ((DF w w.heap.size 44 b off m (fl B) (dG B) b0 f0 p0 k o1 p1 o2 p2) y1 ∧ LBs y1 or d (fun i => fl B (3 + i)) (fun i => dG B (3 + i)) ∧ Blk y1 gq #[.int .i64 (k : Int), .slice o1 (fl B 1) p1, .string S2, .slice or d cr] 44) := Lib.hid ⟨HE.out.1.later hb1, HE.out.2.1.later hb1, Blk.below HE.out.2.2 hb1 (Blk.lt HE.out.2.2)⟩
            clear hb1 HE
            have HX : Hid (Blk (y1.setCells w.heap.size 0 (#[.int .i64 (k : Int), .slice o1 (fl B 1) p1, .string S2, .slice or d cr] : Array Value).toList) w.heap.size #[.int .i64 (k : Int), .slice o1 (fl B 1) p1, .string S2, .slice or d cr] 44 ∧ y1.there w.heap.size 0 (#[.int .i64 (k : Int), .slice o1 (fl B 1) p1, .string S2, .slice or d cr] : Array Value).size ∧ Own w.heap.size y1 (y1.setCells w.heap.size 0 (#[.int .i64 (k : Int), .slice o1 (fl B 1) p1, .string S2, .slice or d cr] : Array Value).toList)) := Lib.hid ⟨Blk.whole HE1.out.1.r rfl, Blk.thereAll HE1.out.1.r _ (Nat.le_refl 4), Own.setCells _ 0 _⟩
            have HY : Hid (QV (y1.setCells w.heap.size 0 (#[.int .i64 (k : Int), .slice o1 (fl B 1) p1, .string S2, .slice or d cr] : Array Value).toList) (.agg #[.int .i64 (k : Int), .slice o1 (fl B 1) p1, .string S2, .slice or d cr]) k (fl B 1) (dG B 1) S2 d (fun i => fl B (3 + i)) (fun i => dG B (3 + i)) ∧ Below w.heap.size w (y1.setCells w.heap.size 0 (#[.int .i64 (k : Int), .slice o1 (fl B 1) p1, .string S2, .slice or d cr] : Array Value).toList)) := Lib.hid ⟨⟨o1, p1, or, cr, rfl, HE1.out.1.v1.1.keep HX.out.2.2 HE1.out.1.r (fun k x => zeroR_u8 k x), HE1.out.1.v1.2.1, HE1.out.1.v1.2.2.1, HE1.out.1.v1.2.2.2, HE1.out.2.1.keep HX.out.2.2 (HRW.out) HE1.out.1.r (fun k x => zeroR_u8 k x), (by first | exact HR.out.1 | (intro _; rfl)), HR.out.2.1, HR.out.2.2⟩, HE1.out.1.o.trans (HX.out.2.2.below (Nat.le_refl _) HE1.out.1.o.size)⟩
            go_wp2_with (first | (refine wpList_load_row rfl 44 (.tmp 6) rfl gq rfl 44 #[.int .i64 (k : Int), .slice o1 (fl B 1) p1, .string S2, .slice or d cr] (0, 0) _ HE1.out.2.2 Tryd.underlying44 rfl (infoR _ rfl) ?_) | (refine wpList_store_mid rfl 44 (.tmp 2) (.tmp 49) rfl w.heap.size 0 #[.int .i64 (k : Int), .slice o1 (fl B 1) p1, .string S2, .slice or d cr] rfl rfl HX.out.2.1 (infoR _ rfl) (one4 _ _ _ _ ⟨rfl, rfl, rfl, rfl⟩) ?_))
            refine bodyPost_ret (v := .tuple #[.agg #[.int .i64 (k : Int), .slice o1 (fl B 1) p1, .string S2, .slice or d cr], .nilIface]) ?_ ?_ ?_
            · exact results_cell_tmp Tryd.results24 _ _ w.heap.size 44 #[.int .i64 (k : Int), .slice o1 (fl B 1) p1, .string S2, .slice or d cr] (0, 0) _ rfl HX.out.1 Tryd.underlying44 rfl (infoR _ rfl)
            · rfl
            · (obtain ⟨q1, q2, q3, q4, q5⟩ := HQ.out; rw [q1, q2, q3, q4, q5]; exact ⟨.agg #[.int .i64 (k : Int), .slice o1 (fl B 1) p1, .string S2, .slice or d cr], .nilIface, rfl, HY.out.1, .inl ⟨rfl, rfl⟩, HY.out.2⟩)
          · rw [hmb] at HMAY
            have HQ : Hid (qz n B = 0 ∧ qn n B = 0 ∧ qS n B = ⟨#[]⟩ ∧ qq n B = 0 ∧ dqE n B = 4) := Lib.hid ⟨if_neg hdq, if_neg hdq, if_neg hdq, if_neg hdq, by unfold dqE; rw [if_neg hdq, if_pos HF.out]⟩
            clear hmb hdq
            go_wp2_with (first | (refine wpList_load_row rfl 44 (.tmp 6) rfl gq rfl 44 #[.int .i64 (k : Int), .slice o1 (fl B 1) p1, .string S2, .slice or d cr] (0, 0) _ HE.out.2.2 Tryd.underlying44 rfl (infoR _ rfl) ?_))
            refine HMAY.out.mono ?_
            clear HMAY
            rintro e y1 ⟨rfl, hb1⟩
            have HE1 : Hid (Blk y1 w.heap.size zeroR 44 ∧ Below w.heap.size w y1) := Lib.hid ⟨(HE.out.1.later hb1).r, (HE.out.1.later hb1).o⟩
            clear hb1 HE
            have HX : Hid (Blk (y1.setCells w.heap.size 0 zeroR.toList) w.heap.size zeroR 44 ∧ y1.there w.heap.size 0 zeroR.size ∧ Below w.heap.size w (y1.setCells w.heap.size 0 zeroR.toList)) := Lib.hid ⟨Blk.whole HE1.out.1 rfl, Blk.thereAll HE1.out.1 _ (Nat.le_refl _), HE1.out.2.trans ((Own.setCells _ 0 _).below (Nat.le_refl _) HE1.out.2.size)⟩
            go_wp2_with (first | (refine wpList_store_mid rfl 44 (.tmp 2) (.tmp 47) rfl w.heap.size 0 zeroR rfl rfl HX.out.2.1 (infoR _ rfl) zeroR_one ?_))
            refine bodyPost_ret (v := .tuple #[.agg zeroR, (.iface 118 (.int .i64 4))]) ?_ ?_ ?_
            · exact results_cell_tmp Tryd.results24 _ _ w.heap.size 44 zeroR (0, 0) _ rfl HX.out.1 Tryd.underlying44 rfl (infoR _ rfl)
            · rfl
            · (obtain ⟨q1, q2, q3, q4, q5⟩ := HQ.out; rw [q1, q2, q3, q4, q5]; exact ⟨.agg zeroR, (.iface 118 (.int .i64 4)), rfl, QV.zero _ _ _ _, .inr ⟨rfl, by decide⟩, HX.out.2.2⟩)
        refine AllReadyH.cons (o := { dst := some 6, op := Go.Op.alloc 44, type := 0, pos := "request.go:160", after := #[], guard := none }) rfl (fun K hK => ?_) AllReadyH.nil
        go_simp
        (obtain ⟨v_4, hw_4⟩ : ∃ q, W0.alloc (.cells zeroR 44) = q := ⟨_, rfl⟩; rw [hw_4]; have hb_4 : Below W0.heap.size W0 v_4 := (by rw [← hw_4]; exact (Below.refl _ _).alloc (Nat.le_refl _) _); have hG_4 : Blk v_4 W0.heap.size zeroR 44 := (by rw [← hw_4]; exact Blk.new _ _ _); have HKP : Hid (∀ w3, Below W0.heap.size W0 w3 → (DF w w.heap.size 44 b off m (fl B) (dG B) b0 f0 p0 k o1 p1 o2 p2) w3) := Lib.hid (fun w3 h => hS_0.later h); have hS_4 := hS_0.later hb_4; have hP_4 := hb_4; obtain ⟨gq, hgq⟩ : ∃ q, W0.heap.size = q := ⟨_, rfl⟩; have HGO : Hid (w.heap.size < gq) := Lib.hid (by rw [← hgq]; exact Blk.lt hS_0.r); rw [hgq] at hG_4 HKP hP_4 ⊢; clear hgq hb_4 hS_0 hw_4; skip)
        (try go_wp2_with fail)
        refine hK.out _ _ ?_ (fun hHeld => ?_)
        · (try dsimp only)
          first | assumption
        clear hK K
        (try simp only [Act.put, List.setIfInBounds_toArray, List.set_cons_zero, List.set_cons_succ])
        refine wpAnyH_ready (rs := [14]) (by kernel_rfl) (by simp) ?_
        refine AllReadyH.cons (o := { dst := some 42, op := Go.Op.call { callee := Go.Callee.value (Go.Operand.func 70), args := #[Go.Operand.tmp 41, Go.Operand.const (Go.Value.int Go.IntKind.i64 3)], argTypes := #[34, 3] }, type := 34, pos := "request.go:160", after := #[{ on := 13, ground := Go.Ground.data }], guard := none }) rfl (fun K hK => ?_) AllReadyH.nil
        go_simp
        (refine (rest_any b off m c 3 d (fl B) (dG B) _ hS_4.l HMM.out.2.2.1 HMM.out.2.2.2 HDD.out (by have := HMM.out; omega) (fun i hi => by have := HLL.out i hi; omega)).mono ?_; rintro e v_5 ⟨or, cr, rfl, hZ_5, hrn, hrc, hrm, hrl, hb_5⟩; have HR := Lib.hid (And.intro hrn (And.intro hrc hrm)); have hS_5 := hS_4.later hb_5; have hG_5 := Blk.below hG_4 hb_5 (Blk.lt hG_4); have hP_5 := hP_4.trans (hb_5.mono (Nat.le_of_lt (Blk.lt hG_4))); have HRL : Hid (∀ a, or = some a → 0 < d → a.block ≠ gq) := Lib.hid (fun a ha _ => by have h1 := hrl a ha; have h2 := Blk.lt hG_4; omega); clear hG_4 hP_4; have HRW : Hid (∀ a, or = some a → 0 < d → a.block ≠ w.heap.size) := Lib.hid (fun a ha _ => by have h1 := hrl a ha; have h2 := Blk.lt hS_4.r; omega); clear hrn hrc hrm hrl hb_5 hS_4; skip)
        (try go_wp2_with fail)
        refine hK.out _ _ ?_ (fun hHeld => ?_)
        · (try dsimp only)
          first | assumption
        clear hK K
        (try simp only [Act.put, List.setIfInBounds_toArray, List.set_cons_zero, List.set_cons_succ])
        refine wpAnyH_take (i := 15) (oi := { dst := some 43, op := Go.Op.build 44 #[(0, Go.Operand.tmp 33), (1, Go.Operand.tmp 36), (2, Go.Operand.tmp 40), (3, Go.Operand.tmp 42)], type := 44, pos := "request.go:160", after := #[{ on := 5, ground := Go.Ground.data }, { on := 8, ground := Go.Ground.data }, { on := 12, ground := Go.Ground.data }, { on := 14, ground := Go.Ground.data }], guard := none }) (v := ?_) rfl (by kernel_rfl) (by kernel_rfl) (by kernel_rfl) (fun _ _ _ h => h) (Or.inl ⟨by rfl, ?_⟩) (by assumption) ?_
        rotate_left
        · intro wS hSw
          refine exec_buildM (parts := #[(0, .tmp 33), (1, .tmp 36), (2, .tmp 40), (3, .tmp 42)]) (ps := #[(0, .int .i64 k), (1, .slice o1 (fl B 1) p1), (2, .string S2), (3, .slice or d cr)]) ?_ ?_ (buildR _ _ _ _ _ _ _ _) <;> first | rfl | (simp; done) | (simp; rfl) | (simp; exact ⟨rfl, rfl, rfl, rfl⟩)
        (try simp only [Act.put, List.setIfInBounds_toArray, List.set_cons_zero, List.set_cons_succ])
        refine wpAnyH_ready (rs := [17]) (by kernel_rfl) (by simp) ?_
        refine AllReadyH.cons (o := { dst := none, op := Go.Op.store 44 (Go.Operand.tmp 6) (Go.Operand.tmp 43), type := 0, pos := "request.go:160", after := #[{ on := 16, ground := Go.Ground.data }, { on := 15, ground := Go.Ground.data }, { on := 14, ground := Go.Ground.chain }, { on := 0, ground := Go.Ground.phase }, { on := 1, ground := Go.Ground.phase }, { on := 2, ground := Go.Ground.phase }, { on := 3, ground := Go.Ground.phase }, { on := 4, ground := Go.Ground.phase }, { on := 5, ground := Go.Ground.phase }, { on := 6, ground := Go.Ground.phase }, { on := 7, ground := Go.Ground.phase }, { on := 8, ground := Go.Ground.phase }, { on := 9, ground := Go.Ground.phase }, { on := 10, ground := Go.Ground.phase }, { on := 11, ground := Go.Ground.phase }, { on := 12, ground := Go.Ground.phase }, { on := 13, ground := Go.Ground.phase }, { on := 14, ground := Go.Ground.phase }, { on := 15, ground := Go.Ground.phase }, { on := 16, ground := Go.Ground.phase }], guard := none }) rfl (fun K hK => ?_) AllReadyH.nil
        (refine step_storeM (by rfl) 44 (.tmp 6) (.tmp 43) rfl gq 0 #[.int .i64 (k : Int), .slice o1 (fl B 1) p1, .string S2, .slice or d cr] rfl rfl (Blk.thereAll hG_5 _ (Nat.le_refl 4)) (infoR _ rfl) (one4 _ _ _ _ ⟨rfl, rfl, rfl, rfl⟩) ?_; obtain ⟨v_6, hw_6⟩ : ∃ q, v_5.setCells gq 0 (#[.int .i64 (k : Int), .slice o1 (fl B 1) p1, .string S2, .slice or d cr] : Array Value).toList = q := ⟨_, rfl⟩; rw [hw_6]; have hO_6 : Own gq v_5 v_6 := (by rw [← hw_6]; exact Own.setCells _ 0 _); have hZ_6 := hZ_5.keep hO_6 HRL.out hG_5 (fun k x => zeroR_u8 k x); have hS_6 := HKP.out _ (hP_5.trans (hO_6.below (Nat.le_refl _) (Nat.le_of_lt (Blk.lt hG_5)))); have hG_6 : Blk v_6 gq #[.int .i64 (k : Int), .slice o1 (fl B 1) p1, .string S2, .slice or d cr] 44 := (by rw [← hw_6]; exact Blk.whole hG_5 rfl); clear hw_6 hG_5 hS_5 hZ_5 hP_5 hO_6 HKP; skip)
        refine hK.out _ _ ?_ (fun hHeld => ?_)
        · (try dsimp only)
          first | assumption
        clear hK K
        (try simp only [Act.put, List.setIfInBounds_toArray, List.set_cons_zero, List.set_cons_succ])
        refine wpAnyH_done (by kernel_rfl) ?_ _
        have HE := Lib.hid (And.intro hS_6 (And.intro hZ_6 hG_6))
        clear hS_6 hZ_6 hG_6 k1
        have HMAY := Lib.hid (may_any (k : Int) o1 or (fl B 1) p1 d cr S2 v_6 (by have := HK.out; omega) (by have := HK.out; omega) (by have := HE.out.1.v1; omega) (by have := HR.out; omega) (by rw [HS2.out.2]; have := HLL.out 2 (by have := HMM.out; omega); unfold maxLen; omega))
        have hmb : (decide (MB k (fl B 1) S2 d) = true ∧ DQ n B) ∨ (decide (MB k (fl B 1) S2 d) = false ∧ ¬ DQ n B) := by
          by_cases h : MB k (fl B 1) S2 d
          · exact .inl ⟨decide_eq_true h, HF.out, by rw [HM.out.1]; exact HMM.out.1, HK.out.2.2, by rw [HK.out.1, HM.out.1, HS2.out.1, show m - 3 = d by have := HDD.out; omega]; exact h⟩
          · exact .inr ⟨decide_eq_false h, fun h2 => h (by have h3 := h2.2.2.2; rw [HK.out.1, HM.out.1, HS2.out.1, show m - 3 = d by have := HDD.out; omega] at h3; exact h3)⟩
        rcases hmb with ⟨hmb, hdq⟩ | ⟨hmb, hdq⟩
        · rw [hmb] at HMAY
          have HQ : Hid (qz n B = k ∧ qn n B = fl B 1 ∧ qS n B = S2 ∧ qq n B = d ∧ dqE n B = 0) := Lib.hid ⟨by unfold qz; rw [if_pos hdq, HK.out.1], if_pos hdq, by unfold qS; rw [if_pos hdq, HS2.out.1], by unfold qq; rw [if_pos hdq, HM.out.1]; (try (have := HDD.out; omega)), if_pos hdq⟩
          clear hmb hdq
          go_wp2_with (first | (refine wpList_load_row rfl 44 (.tmp 6) rfl gq rfl 44 #[.int .i64 (k : Int), .slice o1 (fl B 1) p1, .string S2, .slice or d cr] (0, 0) _ HE.out.2.2 Tryd.underlying44 rfl (infoR _ rfl) ?_))
          refine HMAY.out.mono ?_
          clear HMAY
          rintro e y1 ⟨rfl, hb1⟩
          have HE1 : Hid ((DF w w.heap.size 44 b off m (fl B) (dG B) b0 f0 p0 k o1 p1 o2 p2) y1 ∧ LBs y1 or d (fun i => fl B (3 + i)) (fun i => dG B (3 + i)) ∧ Blk y1 gq #[.int .i64 (k : Int), .slice o1 (fl B 1) p1, .string S2, .slice or d cr] 44) := Lib.hid ⟨HE.out.1.later hb1, HE.out.2.1.later hb1, Blk.below HE.out.2.2 hb1 (Blk.lt HE.out.2.2)⟩
          clear hb1 HE
          have HX : Hid (Blk (y1.setCells w.heap.size 0 (#[.int .i64 (k : Int), .slice o1 (fl B 1) p1, .string S2, .slice or d cr] : Array Value).toList) w.heap.size #[.int .i64 (k : Int), .slice o1 (fl B 1) p1, .string S2, .slice or d cr] 44 ∧ y1.there w.heap.size 0 (#[.int .i64 (k : Int), .slice o1 (fl B 1) p1, .string S2, .slice or d cr] : Array Value).size ∧ Own w.heap.size y1 (y1.setCells w.heap.size 0 (#[.int .i64 (k : Int), .slice o1 (fl B 1) p1, .string S2, .slice or d cr] : Array Value).toList)) := Lib.hid ⟨Blk.whole HE1.out.1.r rfl, Blk.thereAll HE1.out.1.r _ (Nat.le_refl 4), Own.setCells _ 0 _⟩
          have HY : Hid (QV (y1.setCells w.heap.size 0 (#[.int .i64 (k : Int), .slice o1 (fl B 1) p1, .string S2, .slice or d cr] : Array Value).toList) (.agg #[.int .i64 (k : Int), .slice o1 (fl B 1) p1, .string S2, .slice or d cr]) k (fl B 1) (dG B 1) S2 d (fun i => fl B (3 + i)) (fun i => dG B (3 + i)) ∧ Below w.heap.size w (y1.setCells w.heap.size 0 (#[.int .i64 (k : Int), .slice o1 (fl B 1) p1, .string S2, .slice or d cr] : Array Value).toList)) := Lib.hid ⟨⟨o1, p1, or, cr, rfl, HE1.out.1.v1.1.keep HX.out.2.2 HE1.out.1.r (fun k x => zeroR_u8 k x), HE1.out.1.v1.2.1, HE1.out.1.v1.2.2.1, HE1.out.1.v1.2.2.2, HE1.out.2.1.keep HX.out.2.2 (HRW.out) HE1.out.1.r (fun k x => zeroR_u8 k x), (by first | exact HR.out.1 | (intro _; rfl)), HR.out.2.1, HR.out.2.2⟩, HE1.out.1.o.trans (HX.out.2.2.below (Nat.le_refl _) HE1.out.1.o.size)⟩
          go_wp2_with (first | (refine wpList_load_row rfl 44 (.tmp 6) rfl gq rfl 44 #[.int .i64 (k : Int), .slice o1 (fl B 1) p1, .string S2, .slice or d cr] (0, 0) _ HE1.out.2.2 Tryd.underlying44 rfl (infoR _ rfl) ?_) | (refine wpList_store_mid rfl 44 (.tmp 2) (.tmp 49) rfl w.heap.size 0 #[.int .i64 (k : Int), .slice o1 (fl B 1) p1, .string S2, .slice or d cr] rfl rfl HX.out.2.1 (infoR _ rfl) (one4 _ _ _ _ ⟨rfl, rfl, rfl, rfl⟩) ?_))
          refine bodyPost_ret (v := .tuple #[.agg #[.int .i64 (k : Int), .slice o1 (fl B 1) p1, .string S2, .slice or d cr], .nilIface]) ?_ ?_ ?_
          · exact results_cell_tmp Tryd.results24 _ _ w.heap.size 44 #[.int .i64 (k : Int), .slice o1 (fl B 1) p1, .string S2, .slice or d cr] (0, 0) _ rfl HX.out.1 Tryd.underlying44 rfl (infoR _ rfl)
          · rfl
          · (obtain ⟨q1, q2, q3, q4, q5⟩ := HQ.out; rw [q1, q2, q3, q4, q5]; exact ⟨.agg #[.int .i64 (k : Int), .slice o1 (fl B 1) p1, .string S2, .slice or d cr], .nilIface, rfl, HY.out.1, .inl ⟨rfl, rfl⟩, HY.out.2⟩)
        · rw [hmb] at HMAY
          have HQ : Hid (qz n B = 0 ∧ qn n B = 0 ∧ qS n B = ⟨#[]⟩ ∧ qq n B = 0 ∧ dqE n B = 4) := Lib.hid ⟨if_neg hdq, if_neg hdq, if_neg hdq, if_neg hdq, by unfold dqE; rw [if_neg hdq, if_pos HF.out]⟩
          clear hmb hdq
          go_wp2_with (first | (refine wpList_load_row rfl 44 (.tmp 6) rfl gq rfl 44 #[.int .i64 (k : Int), .slice o1 (fl B 1) p1, .string S2, .slice or d cr] (0, 0) _ HE.out.2.2 Tryd.underlying44 rfl (infoR _ rfl) ?_))
          refine HMAY.out.mono ?_
          clear HMAY
          rintro e y1 ⟨rfl, hb1⟩
          have HE1 : Hid (Blk y1 w.heap.size zeroR 44 ∧ Below w.heap.size w y1) := Lib.hid ⟨(HE.out.1.later hb1).r, (HE.out.1.later hb1).o⟩
          clear hb1 HE
          have HX : Hid (Blk (y1.setCells w.heap.size 0 zeroR.toList) w.heap.size zeroR 44 ∧ y1.there w.heap.size 0 zeroR.size ∧ Below w.heap.size w (y1.setCells w.heap.size 0 zeroR.toList)) := Lib.hid ⟨Blk.whole HE1.out.1 rfl, Blk.thereAll HE1.out.1 _ (Nat.le_refl _), HE1.out.2.trans ((Own.setCells _ 0 _).below (Nat.le_refl _) HE1.out.2.size)⟩
          go_wp2_with (first | (refine wpList_store_mid rfl 44 (.tmp 2) (.tmp 47) rfl w.heap.size 0 zeroR rfl rfl HX.out.2.1 (infoR _ rfl) zeroR_one ?_))
          refine bodyPost_ret (v := .tuple #[.agg zeroR, (.iface 118 (.int .i64 4))]) ?_ ?_ ?_
          · exact results_cell_tmp Tryd.results24 _ _ w.heap.size 44 zeroR (0, 0) _ rfl HX.out.1 Tryd.underlying44 rfl (infoR _ rfl)
          · rfl
          · (obtain ⟨q1, q2, q3, q4, q5⟩ := HQ.out; rw [q1, q2, q3, q4, q5]; exact ⟨.agg zeroR, (.iface 118 (.int .i64 4)), rfl, QV.zero _ _ _ _, .inr ⟨rfl, by decide⟩, HX.out.2.2⟩)
set_option maxRecDepth 100000 in
set_option maxHeartbeats 8000000 in
theorem rdec_q (ob : Option Addr) (n cap : Nat) (B : Nat → Nat) (w : World) (hB : Bytes w ob n B) (hc : n ≤ cap) (hm : cap ≤ maxLen) :
    Calls Tryd.prog 25 #[.slice ob n cap] w fun e w' => ∃ r, e = .returned (.tuple #[r, .int .i64 (dqE n B : Nat)]) ∧ QV w' r (qz n B) (qn n B) (dG B 1) (qS n B) (qq n B) (fun i => fl B (3 + i)) (fun i => dG B (3 + i)) ∧ Below w.heap.size w w' := by
  have hz := zeroR_run2
  obtain ⟨wa, hwa⟩ : ∃ x, w.alloc (.cells zeroR 36) = x := ⟨_, rfl⟩
  have hba : Below w.heap.size w wa := by rw [← hwa]; exact (Below.refl _ _).alloc (Nat.le_refl _) _
  have HA : Hid (Blk wa w.heap.size zeroR 36 ∧ Below w.heap.size w wa) := Lib.hid ⟨by rw [← hwa]; exact Blk.new _ _ _, hba⟩
  have HD := Lib.hid (rdec_any ob n cap B wa (hB.later hba) hc hm)
  have HBB : Hid (∀ k, k < n → B k < 256) := Lib.hid fun k hk => (hB k hk).1
  clear hba hB hc hm
  go_enter Tryd.func25, Tryd.ntmps25
  go_wp2_with fail
  refine HD.out.mono ?_
  clear HD
  rintro e w1 ⟨hb1, hr1⟩
  have H1 : Hid (Blk w1 w.heap.size zeroR 36 ∧ Below w.heap.size w w1) := Lib.hid ⟨Blk.below HA.out.1 hb1 (Blk.lt HA.out.1), HA.out.2.trans (hb1.mono HA.out.2.size)⟩
  clear hb1 HA hwa
  rcases hr1 with ⟨hf, oa, c, rfl, hl, hno, hcc, hcm⟩ | ⟨hbig, rfl⟩ | ⟨hsm, hnf, rfl⟩
  case inr.inl =>
    have hd : ¬ DQ n B := fun h => by have := h.1.2.1; omega
    have HQ : Hid (qz n B = 0 ∧ qn n B = 0 ∧ qS n B = ⟨#[]⟩ ∧ qq n B = 0 ∧ dqE n B = 3) := Lib.hid ⟨if_neg hd, if_neg hd, if_neg hd, if_neg hd, by unfold dqE; rw [if_neg hd]; rw [if_neg (fun h => by have := h.2.1; omega), if_pos hbig]⟩
    clear hd
    clear hbig
    have HX : Hid (Blk (w1.setCells w.heap.size 0 zeroR.toList) w.heap.size zeroR 36 ∧ w1.there w.heap.size 0 zeroR.size ∧ Below w.heap.size w (w1.setCells w.heap.size 0 zeroR.toList)) := Lib.hid ⟨Blk.whole H1.out.1 rfl, Blk.thereAll H1.out.1 _ (Nat.le_refl _), H1.out.2.trans ((Own.setCells _ 0 _).below (Nat.le_refl _) H1.out.2.size)⟩
    go_wp2_with (first | (refine wpList_store_mid rfl 36 (.tmp 2) (.tmp 14) rfl w.heap.size 0 zeroR rfl rfl HX.out.2.1 (infoR2 _ rfl) zeroR_one ?_))
    refine bodyPost_ret (v := .tuple #[.agg zeroR, (.int .i64 3)]) ?_ ?_ ?_
    · exact results_cell_tmp Tryd.results25 _ _ w.heap.size 36 zeroR (0, 0) _ rfl HX.out.1 Tryd.underlying36 rfl (infoR2 _ rfl)
    · rfl
    · (obtain ⟨q1, q2, q3, q4, q5⟩ := HQ.out; rw [q1, q2, q3, q4, q5]; exact ⟨.agg zeroR, rfl, QV.zero _ _ _ _, HX.out.2.2⟩)
  case inr.inr =>
    have hd : ¬ DQ n B := fun h => hnf h.1
    have HQ : Hid (qz n B = 0 ∧ qn n B = 0 ∧ qS n B = ⟨#[]⟩ ∧ qq n B = 0 ∧ dqE n B = 4) := Lib.hid ⟨if_neg hd, if_neg hd, if_neg hd, if_neg hd, by unfold dqE; rw [if_neg hd]; rw [if_neg hnf, if_neg (by omega)]⟩
    clear hd
    clear hsm hnf
    have HX : Hid (Blk (w1.setCells w.heap.size 0 zeroR.toList) w.heap.size zeroR 36 ∧ w1.there w.heap.size 0 zeroR.size ∧ Below w.heap.size w (w1.setCells w.heap.size 0 zeroR.toList)) := Lib.hid ⟨Blk.whole H1.out.1 rfl, Blk.thereAll H1.out.1 _ (Nat.le_refl _), H1.out.2.trans ((Own.setCells _ 0 _).below (Nat.le_refl _) H1.out.2.size)⟩
    go_wp2_with (first | (refine wpList_store_mid rfl 36 (.tmp 2) (.tmp 14) rfl w.heap.size 0 zeroR rfl rfl HX.out.2.1 (infoR2 _ rfl) zeroR_one ?_))
    refine bodyPost_ret (v := .tuple #[.agg zeroR, (.int .i64 4)]) ?_ ?_ ?_
    · exact results_cell_tmp Tryd.results25 _ _ w.heap.size 36 zeroR (0, 0) _ rfl HX.out.1 Tryd.underlying36 rfl (infoR2 _ rfl)
    · rfl
    · (obtain ⟨q1, q2, q3, q4, q5⟩ := HQ.out; rw [q1, q2, q3, q4, q5]; exact ⟨.agg zeroR, rfl, QV.zero _ _ _ _, HX.out.2.2⟩)
  case inl =>
    have HF := Lib.hid hf
    obtain ⟨m, hmE⟩ : ∃ m, B 0 = m := ⟨_, rfl⟩
    have HM : Hid (B 0 = m ∧ m ≤ 16) := Lib.hid ⟨hmE, by have := hf.2.2.1; omega⟩
    rw [hmE] at hl hno hcc ⊢
    by_cases h3 : m < 3
    · have g1 : (m : Int) < 3 := by omega
      have hd : ¬ DQ n B := fun h => by have := h.2.1; omega
      have HQ : Hid (qz n B = 0 ∧ qn n B = 0 ∧ qS n B = ⟨#[]⟩ ∧ qq n B = 0 ∧ dqE n B = 4) := Lib.hid ⟨if_neg hd, if_neg hd, if_neg hd, if_neg hd, by unfold dqE; rw [if_neg hd]; rw [if_pos hf]⟩
      clear hd
      clear hf hl hno hcc hcm hmE h3
      have HX : Hid (Blk (w1.setCells w.heap.size 0 zeroR.toList) w.heap.size zeroR 36 ∧ w1.there w.heap.size 0 zeroR.size ∧ Below w.heap.size w (w1.setCells w.heap.size 0 zeroR.toList)) := Lib.hid ⟨Blk.whole H1.out.1 rfl, Blk.thereAll H1.out.1 _ (Nat.le_refl _), H1.out.2.trans ((Own.setCells _ 0 _).below (Nat.le_refl _) H1.out.2.size)⟩
      go_wp2_with (first | (refine wpList_store_mid rfl 36 (.tmp 2) (.tmp 26) rfl w.heap.size 0 zeroR rfl rfl HX.out.2.1 (infoR2 _ rfl) zeroR_one ?_))
      refine bodyPost_ret (v := .tuple #[.agg zeroR, (.int .i64 4)]) ?_ ?_ ?_
      · exact results_cell_tmp Tryd.results25 _ _ w.heap.size 36 zeroR (0, 0) _ rfl HX.out.1 Tryd.underlying36 rfl (infoR2 _ rfl)
      · rfl
      · (obtain ⟨q1, q2, q3, q4, q5⟩ := HQ.out; rw [q1, q2, q3, q4, q5]; exact ⟨.agg zeroR, rfl, QV.zero _ _ _ _, HX.out.2.2⟩)
    · have g1 : ¬ (m : Int) < 3 := by omega
      have g1' : decide ((m : Int) < 3) = false := decide_eq_false g1
      obtain ⟨b, off, od0, p0, rfl, hc0, hlp0, hB0, hn0, hm0⟩ := hl 0 (by omega)
      obtain ⟨_, _, o1, p1, e1, hc1, hlp1, hB1, hn1, hm1⟩ := hl 1 (by omega)
      cases e1
      obtain ⟨_, _, o2, p2, e2, hc2, hlp2, hB2, hn2, hm2⟩ := hl 2 (by omega)
      cases e2
      obtain ⟨y, hy⟩ : ∃ y, fl B 0 = y := ⟨_, rfl⟩
      rw [hy] at hc0 hlp0 hB0 hn0
      have y9 : (y : Int) ≤ 9223372036854775807 := by unfold maxLen at hm0; omega
      have g2 : (0 : Int) < (m : Int) := by omega
      have g3 : 0 < m := by omega
      have g4 : (1 : Int) < (m : Int) := by omega
      have g5 : 1 < m := by omega
      have g6 : (2 : Int) < (m : Int) := by omega
      have g7 : 2 < m := by omega
      have c0 : w1.cell? ⟨b, off, none⟩ = some (.slice od0 y p0) := hc0
      by_cases h1 : y = 1
      case neg =>
        have g8 : ¬ (y : Int) = 1 := by omega
        have hd : ¬ DQ n B := fun h => h1 (by have := h.2.2.1; omega)
        have HQ : Hid (qz n B = 0 ∧ qn n B = 0 ∧ qS n B = ⟨#[]⟩ ∧ qq n B = 0 ∧ dqE n B = 4) := Lib.hid ⟨if_neg hd, if_neg hd, if_neg hd, if_neg hd, by unfold dqE; rw [if_neg hd]; rw [if_pos hf]⟩
        clear hd
        clear hf hl hno hcc hcm hmE h3 hc0 hc1 hc2 hlp0 hlp1 hlp2 hB0 hB1 hB2 hn0 hn1 hn2 hm0 hm1 hm2 h1 hy
        have HX : Hid (Blk (w1.setCells w.heap.size 0 zeroR.toList) w.heap.size zeroR 36 ∧ w1.there w.heap.size 0 zeroR.size ∧ Below w.heap.size w (w1.setCells w.heap.size 0 zeroR.toList)) := Lib.hid ⟨Blk.whole H1.out.1 rfl, Blk.thereAll H1.out.1 _ (Nat.le_refl _), H1.out.2.trans ((Own.setCells _ 0 _).below (Nat.le_refl _) H1.out.2.size)⟩
        go_wp2_with (first | (refine wpList_store_mid rfl 36 (.tmp 2) (.tmp 26) rfl w.heap.size 0 zeroR rfl rfl HX.out.2.1 (infoR2 _ rfl) zeroR_one ?_))
        refine bodyPost_ret (v := .tuple #[.agg zeroR, (.int .i64 4)]) ?_ ?_ ?_
        · exact results_cell_tmp Tryd.results25 _ _ w.heap.size 36 zeroR (0, 0) _ rfl HX.out.1 Tryd.underlying36 rfl (infoR2 _ rfl)
        · rfl
        · (obtain ⟨q1, q2, q3, q4, q5⟩ := HQ.out; rw [q1, q2, q3, q4, q5]; exact ⟨.agg zeroR, rfl, QV.zero _ _ _ _, HX.out.2.2⟩)
      case pos =>
        subst h1
        obtain ⟨hk8, b0, f0, rfl, hx0⟩ := hB0 0 (by omega)
        obtain ⟨k, hk⟩ : ∃ k, dG B 0 0 = k := ⟨_, rfl⟩
        rw [hk] at hk8 hx0
        have HK : Hid (dG B 0 0 = k ∧ k < 256 ∧ fl B 0 = 1) := Lib.hid ⟨hk, hk8, hy⟩
        have hS1 : DF w w.heap.size 36 b off m (fl B) (dG B) b0 f0 p0 k o1 p1 o2 p2 w1 := ⟨hl, hc0, hx0, hc1, ⟨hB1, hn1, hlp1, hm1⟩, hc2, ⟨_, hB2, hn2, rfl⟩, H1.out.1, H1.out.2⟩
        have HMM : Hid (3 ≤ m ∧ m ≤ 16 ∧ m ≤ c ∧ c ≤ maxLen) := Lib.hid ⟨by omega, HM.out.2, hcc, hcm⟩
        have HLL : Hid (∀ i, i < m → fl B i ≤ 1024) := Lib.hid fun i hi => by have h1 := hf.at (i := i) (by rw [hmE]; exact hi); have := hf.2.1; omega
        have k1 : IntKind.i64.wrap (k : Int) = (k : Int) := IntWalk.i64_in _ (by omega)
        obtain ⟨d, hd⟩ : ∃ d, m - 3 = d := ⟨_, rfl⟩
        have HDD : Hid (3 + d = m) := Lib.hid (by omega)
        have HS1 := Lib.hid hS1
        obtain ⟨S2, hS2⟩ : ∃ S2, strF (fl B 2) (dG B 2) = S2 := ⟨_, rfl⟩
        have HS2 : Hid (strF (fl B 2) (dG B 2) = S2 ∧ S2.size = fl B 2) := Lib.hid ⟨hS2, by rw [← hS2]; exact strF_size _ _⟩
        clear hf hl hno hcc hcm hmE h3 hc0 hc1 hc2 hlp0 hlp1 hlp2 hB0 hB1 hB2 hn0 hn1 hn2 hm0 hm1 hm2 hy hk8 hx0 hk hS1 hd hS2
        have HBW : Hid (b ≠ w.heap.size) := Lib.hid (fun e => by have h := HS1.out.c0; rw [e, Blk.cell HS1.out.r] at h; exact zeroR_sl _ _ _ _ h)
        have z1 : (3 : Int) ≤ (m : Int) := by have := HMM.out; omega
        have z2 : 3 ≤ m := by have := HMM.out; omega
        have z3 : (m : Int) ≤ (c : Int) := by have := HMM.out; omega
        have z4 : m ≤ c := by have := HMM.out; omega
        have z5 : (3 : Int) ≤ (c : Int) := by omega
        have z6 : 3 ≤ c := by omega
        have z7 : (c : Int) ≤ 9223372036854775807 := by have := HMM.out.2.2.2; unfold maxLen at this; omega
        by_cases hc3 : c = 3
        · obtain rfl : m = 3 := by omega
          obtain rfl : d = 0 := by have := HDD.out; omega
          subst hc3
          have HR : Hid ((some (⟨b, off, none⟩ : Addr) = none → 0 = 0) ∧ 0 ≤ 0 ∧ 0 ≤ maxLen) := Lib.hid ⟨fun _ => rfl, Nat.le_refl _, Nat.zero_le _⟩
          have HRW : Hid (∀ a, some (⟨b, off, none⟩ : Addr) = some a → 0 < 0 → a.block ≠ w.heap.size) := Lib.hid (fun a _ h => absurd h (Nat.lt_irrefl _))
          go_wp2_with fail
          have hS_0 := HS1.out.later (Below.refl _ w1).drew
          clear HS1 c0
          refine wp_region_held_drew (S := (DF w w.heap.size 36 b off 3 (fl B) (dG B) b0 f0 p0 k o1 p1 o2 p2)) (by kernel_rfl) ?_ (fun hHeld => ?_)
          · (try dsimp only)
            first | assumption
          generalize w1.drew = W0 at *
          refine wpAnyH_take (i := 0) (oi := { dst := some 27, op := Go.Op.move (Go.Operand.tmp 4), type := 34, pos := "ref.go:65", after := #[], guard := none }) (v := ?_) rfl (by kernel_rfl) (by kernel_rfl) (by kernel_rfl) (fun _ _ _ h => h) (Or.inl ⟨by rfl, ?_⟩) (by assumption) ?_
          rotate_left
          · intro wS hSw
            (try dsimp only at hSw)
            go_simp
            (try with_reducible rfl)
          (try simp only [Act.put, List.setIfInBounds_toArray, List.set_cons_zero, List.set_cons_succ])
          refine wpAnyH_take (i := 1) (oi := { dst := some 28, op := Go.Op.indexAddr 34 (Go.Operand.tmp 27) (Go.Operand.const (Go.Value.int Go.IntKind.i64 0)), type := 0, pos := "ref.go:65", after := #[{ on := 0, ground := Go.Ground.data }], guard := none }) (v := ?_) rfl (by kernel_rfl) (by kernel_rfl) (by kernel_rfl) (fun _ _ _ h => h) (Or.inl ⟨by rfl, ?_⟩) (by assumption) ?_
          rotate_left
          · intro wS hSw
            (try dsimp only at hSw)
            go_simp
            (try with_reducible rfl)
          (try simp only [Act.put, List.setIfInBounds_toArray, List.set_cons_zero, List.set_cons_succ])
          refine wpAnyH_take (i := 2) (oi := { dst := some 29, op := Go.Op.load 33 (Go.Operand.tmp 28), type := 33, pos := "ref.go:65", after := #[{ on := 1, ground := Go.Ground.data }], guard := none }) (v := ?_) rfl (by kernel_rfl) (by kernel_rfl) (by kernel_rfl) (fun _ _ _ h => h) (Or.inl ⟨by rfl, ?_⟩) (by assumption) ?_
          rotate_left
          · intro wS hSw
            (have h0 := hSw.c0; go_simp; (try with_reducible rfl))
          (try simp only [Act.put, List.setIfInBounds_toArray, List.set_cons_zero, List.set_cons_succ])
          refine wpAnyH_take (i := 3) (oi := { dst := some 30, op := Go.Op.indexAddr 33 (Go.Operand.tmp 29) (Go.Operand.const (Go.Value.int Go.IntKind.i64 0)), type := 0, pos := "ref.go:65", after := #[{ on := 2, ground := Go.Ground.data }], guard := none }) (v := ?_) rfl (by kernel_rfl) (by kernel_rfl) (by kernel_rfl) (fun _ _ _ h => h) (Or.inl ⟨by rfl, ?_⟩) (by assumption) ?_
          rotate_left
          · intro wS hSw
            (try dsimp only at hSw)
            go_simp
            (try with_reducible rfl)
          (try simp only [Act.put, List.setIfInBounds_toArray, List.set_cons_zero, List.set_cons_succ])
          refine wpAnyH_take (i := 4) (oi := { dst := some 31, op := Go.Op.load 5 (Go.Operand.tmp 30), type := 5, pos := "ref.go:65", after := #[{ on := 3, ground := Go.Ground.data }], guard := none }) (v := ?_) rfl (by kernel_rfl) (by kernel_rfl) (by kernel_rfl) (fun _ _ _ h => h) (Or.inl ⟨by rfl, ?_⟩) (by assumption) ?_
          rotate_left
          · intro wS hSw
            (have h0 := hSw.x0; go_simp; (try with_reducible rfl))
          (try simp only [Act.put, List.setIfInBounds_toArray, List.set_cons_zero, List.set_cons_succ])
          refine wpAnyH_take (i := 5) (oi := { dst := some 32, op := Go.Op.convert 5 3 (Go.Operand.tmp 31), type := 3, pos := "ref.go:65", after := #[{ on := 4, ground := Go.Ground.data }], guard := none }) (v := ?_) rfl (by kernel_rfl) (by kernel_rfl) (by kernel_rfl) (fun _ _ _ h => h) (Or.inl ⟨by rfl, ?_⟩) (by assumption) ?_
          rotate_left
          · intro wS hSw
            (try dsimp only at hSw)
            go_simp
            (try with_reducible rfl)
          (try simp only [Act.put, List.setIfInBounds_toArray, List.set_cons_zero, List.set_cons_succ])
          refine wpAnyH_take (i := 6) (oi := { dst := some 33, op := Go.Op.move (Go.Operand.tmp 4), type := 34, pos := "ref.go:65", after := #[], guard := none }) (v := ?_) rfl (by kernel_rfl) (by kernel_rfl) (by kernel_rfl) (fun _ _ _ h => h) (Or.inl ⟨by rfl, ?_⟩) (by assumption) ?_
          rotate_left
          · intro wS hSw
            (try dsimp only at hSw)
            go_simp
            (try with_reducible rfl)
          (try simp only [Act.put, List.setIfInBounds_toArray, List.set_cons_zero, List.set_cons_succ])
          refine wpAnyH_take (i := 7) (oi := { dst := some 34, op := Go.Op.indexAddr 34 (Go.Operand.tmp 33) (Go.Operand.const (Go.Value.int Go.IntKind.i64 1)), type := 0, pos := "ref.go:65", after := #[{ on := 6, ground := Go.Ground.data }], guard := none }) (v := ?_) rfl (by kernel_rfl) (by kernel_rfl) (by kernel_rfl) (fun _ _ _ h => h) (Or.inl ⟨by rfl, ?_⟩) (by assumption) ?_
          rotate_left
          · intro wS hSw
            (try dsimp only at hSw)
            go_simp
            (try with_reducible rfl)
          (try simp only [Act.put, List.setIfInBounds_toArray, List.set_cons_zero, List.set_cons_succ])
          refine wpAnyH_take (i := 8) (oi := { dst := some 35, op := Go.Op.load 33 (Go.Operand.tmp 34), type := 33, pos := "ref.go:65", after := #[{ on := 7, ground := Go.Ground.data }], guard := none }) (v := ?_) rfl (by kernel_rfl) (by kernel_rfl) (by kernel_rfl) (fun _ _ _ h => h) (Or.inl ⟨by rfl, ?_⟩) (by assumption) ?_
          rotate_left
          · intro wS hSw
            (have h0 := hSw.c1; go_simp; (try with_reducible rfl))
          (try simp only [Act.put, List.setIfInBounds_toArray, List.set_cons_zero, List.set_cons_succ])
          refine wpAnyH_take (i := 9) (oi := { dst := some 36, op := Go.Op.move (Go.Operand.tmp 4), type := 34, pos := "ref.go:65", after := #[], guard := none }) (v := ?_) rfl (by kernel_rfl) (by kernel_rfl) (by kernel_rfl) (fun _ _ _ h => h) (Or.inl ⟨by rfl, ?_⟩) (by assumption) ?_
          rotate_left
          · intro wS hSw
            (try dsimp only at hSw)
            go_simp
            (try with_reducible rfl)
          (try simp only [Act.put, List.setIfInBounds_toArray, List.set_cons_zero, List.set_cons_succ])
          refine wpAnyH_take (i := 10) (oi := { dst := some 37, op := Go.Op.indexAddr 34 (Go.Operand.tmp 36) (Go.Operand.const (Go.Value.int Go.IntKind.i64 2)), type := 0, pos := "ref.go:65", after := #[{ on := 9, ground := Go.Ground.data }], guard := none }) (v := ?_) rfl (by kernel_rfl) (by kernel_rfl) (by kernel_rfl) (fun _ _ _ h => h) (Or.inl ⟨by rfl, ?_⟩) (by assumption) ?_
          rotate_left
          · intro wS hSw
            (try dsimp only at hSw)
            go_simp
            (try with_reducible rfl)
          (try simp only [Act.put, List.setIfInBounds_toArray, List.set_cons_zero, List.set_cons_succ])
          refine wpAnyH_take (i := 11) (oi := { dst := some 38, op := Go.Op.load 33 (Go.Operand.tmp 37), type := 33, pos := "ref.go:65", after := #[{ on := 10, ground := Go.Ground.data }], guard := none }) (v := ?_) rfl (by kernel_rfl) (by kernel_rfl) (by kernel_rfl) (fun _ _ _ h => h) (Or.inl ⟨by rfl, ?_⟩) (by assumption) ?_
          rotate_left
          · intro wS hSw
            (have h0 := hSw.c2; go_simp; (try with_reducible rfl))
          (try simp only [Act.put, List.setIfInBounds_toArray, List.set_cons_zero, List.set_cons_succ])
          refine wpAnyH_take (i := 12) (oi := { dst := some 39, op := Go.Op.convert 33 9 (Go.Operand.tmp 38), type := 9, pos := "ref.go:65", after := #[{ on := 11, ground := Go.Ground.data }], guard := none }) (v := ?_) rfl (by kernel_rfl) (by kernel_rfl) (by kernel_rfl) (fun _ _ _ h => h) (Or.inl ⟨by rfl, ?_⟩) (by assumption) ?_
          rotate_left
          · intro wS hSw
            refine exec_convO (x := .tmp 38) (cap := p2) ?_ ?_ (HS2.out.1 ▸ hSw.v2.conv (c := p2)) <;> rfl
          (try simp only [Act.put, List.setIfInBounds_toArray, List.set_cons_zero, List.set_cons_succ])
          refine wpAnyH_take (i := 13) (oi := { dst := some 40, op := Go.Op.move (Go.Operand.tmp 4), type := 34, pos := "ref.go:65", after := #[], guard := none }) (v := ?_) rfl (by kernel_rfl) (by kernel_rfl) (by kernel_rfl) (fun _ _ _ h => h) (Or.inl ⟨by rfl, ?_⟩) (by assumption) ?_
          rotate_left
          · intro wS hSw
            (try dsimp only at hSw)
            go_simp
            (try with_reducible rfl)
          (try simp only [Act.put, List.setIfInBounds_toArray, List.set_cons_zero, List.set_cons_succ])
          refine wpAnyH_take (i := 14) (oi := { dst := some 41, op := Go.Op.slice 34 (Go.Operand.tmp 40) (some (Go.Operand.const (Go.Value.int Go.IntKind.i64 3))) none none, type := 34, pos := "ref.go:65", after := #[{ on := 13, ground := Go.Ground.data }], guard := none }) (v := ?_) rfl (by kernel_rfl) (by kernel_rfl) (by kernel_rfl) (fun _ _ _ h => h) (Or.inl ⟨by rfl, ?_⟩) (by assumption) ?_
          rotate_left
          · intro wS hSw
            (try dsimp only at hSw)
            go_simp
            (try with_reducible rfl)
          (try simp only [Act.put, List.setIfInBounds_toArray, List.set_cons_zero, List.set_cons_succ])
          refine wpAnyH_take (i := 15) (oi := { dst := some 42, op := Go.Op.build 36 #[(0, Go.Operand.tmp 32), (1, Go.Operand.tmp 35), (2, Go.Operand.tmp 39), (3, Go.Operand.tmp 41)], type := 36, pos := "ref.go:65", after := #[{ on := 5, ground := Go.Ground.data }, { on := 8, ground := Go.Ground.data }, { on := 12, ground := Go.Ground.data }, { on := 14, ground := Go.Ground.data }], guard := none }) (v := ?_) rfl (by kernel_rfl) (by kernel_rfl) (by kernel_rfl) (fun _ _ _ h => h) (Or.inl ⟨by rfl, ?_⟩) (by assumption) ?_
          rotate_left
          · intro wS hSw
            refine exec_buildM (parts := #[(0, .tmp 32), (1, .tmp 35), (2, .tmp 39), (3, .tmp 41)]) (ps := #[(0, .int .i64 k), (1, .slice o1 (fl B 1) p1), (2, .string S2), (3, .slice (some ⟨b, off, none⟩) 0 0)]) ?_ ?_ (buildR2 _ _ _ _ _ _ _ _) <;> first | rfl | (simp; done) | (simp; rfl) | (simp; exact ⟨rfl, rfl, rfl, rfl⟩)
          (try simp only [Act.put, List.setIfInBounds_toArray, List.set_cons_zero, List.set_cons_succ])
          refine wpAnyH_ready (rs := [16]) (by kernel_rfl) (by simp) ?_
          refine AllReadyH.cons (o := { dst := some 6, op := Go.Op.alloc 36, type := 0, pos := "ref.go:65", after := #[], guard := none }) rfl (fun K hK => ?_) AllReadyH.nil
          go_simp
          (obtain ⟨v_7, hw_7⟩ : ∃ q, W0.alloc (.cells zeroR 36) = q := ⟨_, rfl⟩; rw [hw_7]; have hb_7 : Below W0.heap.size W0 v_7 := (by rw [← hw_7]; exact (Below.refl _ _).alloc (Nat.le_refl _) _); have hG_7 : Blk v_7 W0.heap.size zeroR 36 := (by rw [← hw_7]; exact Blk.new _ _ _); have HKP : Hid (∀ w3, Below W0.heap.size W0 w3 → (DF w w.heap.size 36 b off 3 (fl B) (dG B) b0 f0 p0 k o1 p1 o2 p2) w3) := Lib.hid (fun w3 h => hS_0.later h); have hS_7 := hS_0.later hb_7; have hP_7 := hb_7; obtain ⟨gq, hgq⟩ : ∃ q, W0.heap.size = q := ⟨_, rfl⟩; have HGO : Hid (w.heap.size < gq) := Lib.hid (by rw [← hgq]; exact Blk.lt hS_0.r); rw [hgq] at hG_7 HKP hP_7 ⊢; clear hgq hb_7 hS_0 hw_7; skip)
          (try go_wp2_with fail)
          refine hK.out _ _ ?_ (fun hHeld => ?_)
          · (try dsimp only)
            first | assumption
          clear hK K
          (try simp only [Act.put, List.setIfInBounds_toArray, List.set_cons_zero, List.set_cons_succ])
          refine wpAnyH_ready (rs := [17]) (by kernel_rfl) (by simp) ?_
          refine AllReadyH.cons (o := { dst := none, op := Go.Op.store 36 (Go.Operand.tmp 6) (Go.Operand.tmp 42), type := 0, pos := "ref.go:65", after := #[{ on := 16, ground := Go.Ground.data }, { on := 15, ground := Go.Ground.data }, { on := 0, ground := Go.Ground.phase }, { on := 1, ground := Go.Ground.phase }, { on := 2, ground := Go.Ground.phase }, { on := 3, ground := Go.Ground.phase }, { on := 4, ground := Go.Ground.phase }, { on := 5, ground := Go.Ground.phase }, { on := 6, ground := Go.Ground.phase }, { on := 7, ground := Go.Ground.phase }, { on := 8, ground := Go.Ground.phase }, { on := 9, ground := Go.Ground.phase }, { on := 10, ground := Go.Ground.phase }, { on := 11, ground := Go.Ground.phase }, { on := 12, ground := Go.Ground.phase }, { on := 13, ground := Go.Ground.phase }, { on := 14, ground := Go.Ground.phase }, { on := 15, ground := Go.Ground.phase }, { on := 16, ground := Go.Ground.phase }], guard := none }) rfl (fun K hK => ?_) AllReadyH.nil
          (refine step_storeM (by rfl) 36 (.tmp 6) (.tmp 42) rfl gq 0 #[.int .i64 (k : Int), .slice o1 (fl B 1) p1, .string S2, .slice (some ⟨b, off, none⟩) 0 0] rfl rfl (Blk.thereAll hG_7 _ (Nat.le_refl 4)) (infoR2 _ rfl) (one4 _ _ _ _ ⟨rfl, rfl, rfl, rfl⟩) ?_; obtain ⟨v_8, hw_8⟩ : ∃ q, v_7.setCells gq 0 (#[.int .i64 (k : Int), .slice o1 (fl B 1) p1, .string S2, .slice (some ⟨b, off, none⟩) 0 0] : Array Value).toList = q := ⟨_, rfl⟩; rw [hw_8]; have hO_8 : Own gq v_7 v_8 := (by rw [← hw_8]; exact Own.setCells _ 0 _); have hS_8 := HKP.out _ (hP_7.trans (hO_8.below (Nat.le_refl _) (Nat.le_of_lt (Blk.lt hG_7)))); have hG_8 : Blk v_8 gq #[.int .i64 (k : Int), .slice o1 (fl B 1) p1, .string S2, .slice (some ⟨b, off, none⟩) 0 0] 36 := (by rw [← hw_8]; exact Blk.whole hG_7 rfl); clear hw_8 hG_7 hS_7  hP_7 hO_8 HKP; skip)
          refine hK.out _ _ ?_ (fun hHeld => ?_)
          · (try dsimp only)
            first | assumption
          clear hK K
          (try simp only [Act.put, List.setIfInBounds_toArray, List.set_cons_zero, List.set_cons_succ])
          refine wpAnyH_done (by kernel_rfl) ?_ _
          have HE := Lib.hid (And.intro hS_8 (And.intro (LBs.zero v_8 (some ⟨b, off, none⟩) (fun i => fl B (3 + i)) (fun i => dG B (3 + i))) hG_8))
          clear hS_8  hG_8 k1
          have HMAY := Lib.hid (rmay_any (k : Int) o1 (some ⟨b, off, none⟩) (fl B 1) p1 0 0 S2 v_8 (by have := HK.out; omega) (by have := HK.out; omega) (by have := HE.out.1.v1; omega) (by have := HR.out; omega) (by rw [HS2.out.2]; have := HLL.out 2 (by have := HMM.out; omega); unfold maxLen; omega))
          have hmb : (decide (MB k (fl B 1) S2 0) = true ∧ DQ n B) ∨ (decide (MB k (fl B 1) S2 0) = false ∧ ¬ DQ n B) := by
            by_cases h : MB k (fl B 1) S2 0
            · exact .inl ⟨decide_eq_true h, HF.out, by rw [HM.out.1]; exact HMM.out.1, HK.out.2.2, by rw [HK.out.1, HM.out.1, HS2.out.1, show 3 - 3 = 0 by have := HDD.out; omega]; exact h⟩
            · exact .inr ⟨decide_eq_false h, fun h2 => h (by have h3 := h2.2.2.2; rw [HK.out.1, HM.out.1, HS2.out.1, show 3 - 3 = 0 by have := HDD.out; omega] at h3; exact h3)⟩
          rcases hmb with ⟨hmb, hdq⟩ | ⟨hmb, hdq⟩
          · rw [hmb] at HMAY
            have HQ : Hid (qz n B = k ∧ qn n B = fl B 1 ∧ qS n B = S2 ∧ qq n B = 0 ∧ dqE n B = 0) := Lib.hid ⟨by unfold qz; rw [if_pos hdq, HK.out.1], if_pos hdq, by unfold qS; rw [if_pos hdq, HS2.out.1], by unfold qq; rw [if_pos hdq, HM.out.1]; (try (have := HDD.out; omega)), if_pos hdq⟩
            clear hmb hdq
            go_wp2_with (first | (refine wpList_load_row rfl 36 (.tmp 6) rfl gq rfl 36 #[.int .i64 (k : Int), .slice o1 (fl B 1) p1, .string S2, .slice (some ⟨b, off, none⟩) 0 0] (0, 0) _ HE.out.2.2 Tryd.underlying36 rfl (infoR2 _ rfl) ?_))
            refine HMAY.out.mono ?_
            clear HMAY
            rintro e y1 ⟨rfl, hb1⟩
            have HE1 : Hid ((DF w w.heap.size 36 b off 3 (fl B) (dG B) b0 f0 p0 k o1 p1 o2 p2) y1 ∧ LBs y1 (some ⟨b, off, none⟩) 0 (fun i => fl B (3 + i)) (fun i => dG B (3 + i)) ∧ Blk y1 gq #[.int .i64 (k : Int), .slice o1 (fl B 1) p1, .string S2, .slice (some ⟨b, off, none⟩) 0 0] 36) := Lib.hid ⟨HE.out.1.later hb1, HE.out.2.1.later hb1, Blk.below HE.out.2.2 hb1 (Blk.lt HE.out.2.2)⟩
            clear hb1 HE
            have HX : Hid (Blk (y1.setCells w.heap.size 0 (#[.int .i64 (k : Int), .slice o1 (fl B 1) p1, .string S2, .slice (some ⟨b, off, none⟩) 0 0] : Array Value).toList) w.heap.size #[.int .i64 (k : Int), .slice o1 (fl B 1) p1, .string S2, .slice (some ⟨b, off, none⟩) 0 0] 36 ∧ y1.there w.heap.size 0 (#[.int .i64 (k : Int), .slice o1 (fl B 1) p1, .string S2, .slice (some ⟨b, off, none⟩) 0 0] : Array Value).size ∧ Own w.heap.size y1 (y1.setCells w.heap.size 0 (#[.int .i64 (k : Int), .slice o1 (fl B 1) p1, .string S2, .slice (some ⟨b, off, none⟩) 0 0] : Array Value).toList)) := Lib.hid ⟨Blk.whole HE1.out.1.r rfl, Blk.thereAll HE1.out.1.r _ (Nat.le_refl 4), Own.setCells _ 0 _⟩
            have HY : Hid (QV (y1.setCells w.heap.size 0 (#[.int .i64 (k : Int), .slice o1 (fl B 1) p1, .string S2, .slice (some ⟨b, off, none⟩) 0 0] : Array Value).toList) (.agg #[.int .i64 (k : Int), .slice o1 (fl B 1) p1, .string S2, .slice (some ⟨b, off, none⟩) 0 0]) k (fl B 1) (dG B 1) S2 0 (fun i => fl B (3 + i)) (fun i => dG B (3 + i)) ∧ Below w.heap.size w (y1.setCells w.heap.size 0 (#[.int .i64 (k : Int), .slice o1 (fl B 1) p1, .string S2, .slice (some ⟨b, off, none⟩) 0 0] : Array Value).toList)) := Lib.hid ⟨⟨o1, p1, (some ⟨b, off, none⟩), 0, rfl, HE1.out.1.v1.1.keep HX.out.2.2 HE1.out.1.r (fun k x => zeroR_u8 k x), HE1.out.1.v1.2.1, HE1.out.1.v1.2.2.1, HE1.out.1.v1.2.2.2, HE1.out.2.1.keep HX.out.2.2 (HRW.out) HE1.out.1.r (fun k x => zeroR_u8 k x), (by first | exact HR.out.1 | (intro _; rfl)), HR.out.2.1, HR.out.2.2⟩, HE1.out.1.o.trans (HX.out.2.2.below (Nat.le_refl _) HE1.out.1.o.size)⟩
            go_wp2_with (first | (refine wpList_load_row rfl 36 (.tmp 6) rfl gq rfl 36 #[.int .i64 (k : Int), .slice o1 (fl B 1) p1, .string S2, .slice (some ⟨b, off, none⟩) 0 0] (0, 0) _ HE1.out.2.2 Tryd.underlying36 rfl (infoR2 _ rfl) ?_) | (refine wpList_store_mid rfl 36 (.tmp 2) (.tmp 47) rfl w.heap.size 0 #[.int .i64 (k : Int), .slice o1 (fl B 1) p1, .string S2, .slice (some ⟨b, off, none⟩) 0 0] rfl rfl HX.out.2.1 (infoR2 _ rfl) (one4 _ _ _ _ ⟨rfl, rfl, rfl, rfl⟩) ?_))
            refine bodyPost_ret (v := .tuple #[.agg #[.int .i64 (k : Int), .slice o1 (fl B 1) p1, .string S2, .slice (some ⟨b, off, none⟩) 0 0], (.int .i64 0)]) ?_ ?_ ?_
            · exact results_cell_tmp Tryd.results25 _ _ w.heap.size 36 #[.int .i64 (k : Int), .slice o1 (fl B 1) p1, .string S2, .slice (some ⟨b, off, none⟩) 0 0] (0, 0) _ rfl HX.out.1 Tryd.underlying36 rfl (infoR2 _ rfl)
            · rfl
            · (obtain ⟨q1, q2, q3, q4, q5⟩ := HQ.out; rw [q1, q2, q3, q4, q5]; exact ⟨.agg #[.int .i64 (k : Int), .slice o1 (fl B 1) p1, .string S2, .slice (some ⟨b, off, none⟩) 0 0], rfl, HY.out.1, HY.out.2⟩)
          · rw [hmb] at HMAY
            have HQ : Hid (qz n B = 0 ∧ qn n B = 0 ∧ qS n B = ⟨#[]⟩ ∧ qq n B = 0 ∧ dqE n B = 4) := Lib.hid ⟨if_neg hdq, if_neg hdq, if_neg hdq, if_neg hdq, by unfold dqE; rw [if_neg hdq, if_pos HF.out]⟩
            clear hmb hdq
            go_wp2_with (first | (refine wpList_load_row rfl 36 (.tmp 6) rfl gq rfl 36 #[.int .i64 (k : Int), .slice o1 (fl B 1) p1, .string S2, .slice (some ⟨b, off, none⟩) 0 0] (0, 0) _ HE.out.2.2 Tryd.underlying36 rfl (infoR2 _ rfl) ?_))
            refine HMAY.out.mono ?_
            clear HMAY
            rintro e y1 ⟨rfl, hb1⟩
            have HE1 : Hid (Blk y1 w.heap.size zeroR 36 ∧ Below w.heap.size w y1) := Lib.hid ⟨(HE.out.1.later hb1).r, (HE.out.1.later hb1).o⟩
            clear hb1 HE
            have HX : Hid (Blk (y1.setCells w.heap.size 0 zeroR.toList) w.heap.size zeroR 36 ∧ y1.there w.heap.size 0 zeroR.size ∧ Below w.heap.size w (y1.setCells w.heap.size 0 zeroR.toList)) := Lib.hid ⟨Blk.whole HE1.out.1 rfl, Blk.thereAll HE1.out.1 _ (Nat.le_refl _), HE1.out.2.trans ((Own.setCells _ 0 _).below (Nat.le_refl _) HE1.out.2.size)⟩
            go_wp2_with (first | (refine wpList_store_mid rfl 36 (.tmp 2) (.tmp 46) rfl w.heap.size 0 zeroR rfl rfl HX.out.2.1 (infoR2 _ rfl) zeroR_one ?_))
            refine bodyPost_ret (v := .tuple #[.agg zeroR, (.int .i64 4)]) ?_ ?_ ?_
            · exact results_cell_tmp Tryd.results25 _ _ w.heap.size 36 zeroR (0, 0) _ rfl HX.out.1 Tryd.underlying36 rfl (infoR2 _ rfl)
            · rfl
            · (obtain ⟨q1, q2, q3, q4, q5⟩ := HQ.out; rw [q1, q2, q3, q4, q5]; exact ⟨.agg zeroR, rfl, QV.zero _ _ _ _, HX.out.2.2⟩)
        · obtain ⟨cr, hcr⟩ : ∃ x, c - 3 = x := ⟨_, rfl⟩
          have z8 : (m : Int) - 3 = (d : Int) := by have := HDD.out; omega
          have z9 : m - 3 = d := by have := HDD.out; omega
          have z10 : (c : Int) - 3 = (cr : Int) := by omega
          have HR : Hid ((some (⟨b, off + 3, none⟩ : Addr) = none → d = 0) ∧ d ≤ cr ∧ cr ≤ maxLen) := Lib.hid ⟨(fun e => by cases e), by omega, by have := HMM.out; omega⟩
          have HRW : Hid (∀ a, some (⟨b, off + 3, none⟩ : Addr) = some a → 0 < d → a.block ≠ w.heap.size) := Lib.hid (fun a h _ => by cases h; exact HBW.out)
          go_wp2_with fail
          have hS_0 := HS1.out.later (Below.refl _ w1).drew
          clear HS1 c0
          refine wp_region_held_drew (S := (DF w w.heap.size 36 b off m (fl B) (dG B) b0 f0 p0 k o1 p1 o2 p2)) (by kernel_rfl) ?_ (fun hHeld => ?_)
          · (try dsimp only)
            first | assumption
          generalize w1.drew = W0 at *
          refine wpAnyH_take (i := 0) (oi := { dst := some 27, op := Go.Op.move (Go.Operand.tmp 4), type := 34, pos := "ref.go:65", after := #[], guard := none }) (v := ?_) rfl (by kernel_rfl) (by kernel_rfl) (by kernel_rfl) (fun _ _ _ h => h) (Or.inl ⟨by rfl, ?_⟩) (by assumption) ?_
          rotate_left
          · intro wS hSw
            (try dsimp only at hSw)
            go_simp
            (try with_reducible rfl)
          (try simp only [Act.put, List.setIfInBounds_toArray, List.set_cons_zero, List.set_cons_succ])
          refine wpAnyH_take (i := 1) (oi := { dst := some 28, op := Go.Op.indexAddr 34 (Go.Operand.tmp 27) (Go.Operand.const (Go.Value.int Go.IntKind.i64 0)), type := 0, pos := "ref.go:65", after := #[{ on := 0, ground := Go.Ground.data }], guard := none }) (v := ?_) rfl (by kernel_rfl) (by kernel_rfl) (by kernel_rfl) (fun _ _ _ h => h) (Or.inl ⟨by rfl, ?_⟩) (by assumption) ?_
          rotate_left
          · intro wS hSw
            (try dsimp only at hSw)
            go_simp
            (try with_reducible rfl)
          (try simp only [Act.put, List.setIfInBounds_toArray, List.set_cons_zero, List.set_cons_succ])
          refine wpAnyH_take (i := 2) (oi := { dst := some 29, op := Go.Op.load 33 (Go.Operand.tmp 28), type := 33, pos := "ref.go:65", after := #[{ on := 1, ground := Go.Ground.data }], guard := none }) (v := ?_) rfl (by kernel_rfl) (by kernel_rfl) (by kernel_rfl) (fun _ _ _ h => h) (Or.inl ⟨by rfl, ?_⟩) (by assumption) ?_
          rotate_left
          · intro wS hSw
            (have h0 := hSw.c0; go_simp; (try with_reducible rfl))
          (try simp only [Act.put, List.setIfInBounds_toArray, List.set_cons_zero, List.set_cons_succ])
          refine wpAnyH_take (i := 3) (oi := { dst := some 30, op := Go.Op.indexAddr 33 (Go.Operand.tmp 29) (Go.Operand.const (Go.Value.int Go.IntKind.i64 0)), type := 0, pos := "ref.go:65", after := #[{ on := 2, ground := Go.Ground.data }], guard := none }) (v := ?_) rfl (by kernel_rfl) (by kernel_rfl) (by kernel_rfl) (fun _ _ _ h => h) (Or.inl ⟨by rfl, ?_⟩) (by assumption) ?_
          rotate_left
          · intro wS hSw
            (try dsimp only at hSw)
            go_simp
            (try with_reducible rfl)
          (try simp only [Act.put, List.setIfInBounds_toArray, List.set_cons_zero, List.set_cons_succ])
          refine wpAnyH_take (i := 4) (oi := { dst := some 31, op := Go.Op.load 5 (Go.Operand.tmp 30), type := 5, pos := "ref.go:65", after := #[{ on := 3, ground := Go.Ground.data }], guard := none }) (v := ?_) rfl (by kernel_rfl) (by kernel_rfl) (by kernel_rfl) (fun _ _ _ h => h) (Or.inl ⟨by rfl, ?_⟩) (by assumption) ?_
          rotate_left
          · intro wS hSw
            (have h0 := hSw.x0; go_simp; (try with_reducible rfl))
          (try simp only [Act.put, List.setIfInBounds_toArray, List.set_cons_zero, List.set_cons_succ])
          refine wpAnyH_take (i := 5) (oi := { dst := some 32, op := Go.Op.convert 5 3 (Go.Operand.tmp 31), type := 3, pos := "ref.go:65", after := #[{ on := 4, ground := Go.Ground.data }], guard := none }) (v := ?_) rfl (by kernel_rfl) (by kernel_rfl) (by kernel_rfl) (fun _ _ _ h => h) (Or.inl ⟨by rfl, ?_⟩) (by assumption) ?_
          rotate_left
          · intro wS hSw
            (try dsimp only at hSw)
            go_simp
            (try with_reducible rfl)
          (try simp only [Act.put, List.setIfInBounds_toArray, List.set_cons_zero, List.set_cons_succ])
          refine wpAnyH_take (i := 6) (oi := { dst := some 33, op := Go.Op.move (Go.Operand.tmp 4), type := 34, pos := "ref.go:65", after := #[], guard := none }) (v := ?_) rfl (by kernel_rfl) (by kernel_rfl) (by kernel_rfl) (fun _ _ _ h => h) (Or.inl ⟨by rfl, ?_⟩) (by assumption) ?_
          rotate_left
          · intro wS hSw
            (try dsimp only at hSw)
            go_simp
            (try with_reducible rfl)
          (try simp only [Act.put, List.setIfInBounds_toArray, List.set_cons_zero, List.set_cons_succ])
          refine wpAnyH_take (i := 7) (oi := { dst := some 34, op := Go.Op.indexAddr 34 (Go.Operand.tmp 33) (Go.Operand.const (Go.Value.int Go.IntKind.i64 1)), type := 0, pos := "ref.go:65", after := #[{ on := 6, ground := Go.Ground.data }], guard := none }) (v := ?_) rfl (by kernel_rfl) (by kernel_rfl) (by kernel_rfl) (fun _ _ _ h => h) (Or.inl ⟨by rfl, ?_⟩) (by assumption) ?_
          rotate_left
          · intro wS hSw
            (try dsimp only at hSw)
            go_simp
            (try with_reducible rfl)
          (try simp only [Act.put, List.setIfInBounds_toArray, List.set_cons_zero, List.set_cons_succ])
          refine wpAnyH_take (i := 8) (oi := { dst := some 35, op := Go.Op.load 33 (Go.Operand.tmp 34), type := 33, pos := "ref.go:65", after := #[{ on := 7, ground := Go.Ground.data }], guard := none }) (v := ?_) rfl (by kernel_rfl) (by kernel_rfl) (by kernel_rfl) (fun _ _ _ h => h) (Or.inl ⟨by rfl, ?_⟩) (by assumption) ?_
          rotate_left
          · intro wS hSw
            (have h0 := hSw.c1; go_simp; (try with_reducible rfl))
          (try simp only [Act.put, List.setIfInBounds_toArray, List.set_cons_zero, List.set_cons_succ])
          refine wpAnyH_take (i := 9) (oi := { dst := some 36, op := Go.Op.move (Go.Operand.tmp 4), type := 34, pos := "ref.go:65", after := #[], guard := none }) (v := ?_) rfl (by kernel_rfl) (by kernel_rfl) (by kernel_rfl) (fun _ _ _ h => h) (Or.inl ⟨by rfl, ?_⟩) (by assumption) ?_
          rotate_left
          · intro wS hSw
            (try dsimp only at hSw)
            go_simp
            (try with_reducible rfl)
          (try simp only [Act.put, List.setIfInBounds_toArray, List.set_cons_zero, List.set_cons_succ])
          refine wpAnyH_take (i := 10) (oi := { dst := some 37, op := Go.Op.indexAddr 34 (Go.Operand.tmp 36) (Go.Operand.const (Go.Value.int Go.IntKind.i64 2)), type := 0, pos := "ref.go:65", after := #[{ on := 9, ground := Go.Ground.data }], guard := none }) (v := ?_) rfl (by kernel_rfl) (by kernel_rfl) (by kernel_rfl) (fun _ _ _ h => h) (Or.inl ⟨by rfl, ?_⟩) (by assumption) ?_
          rotate_left
          · intro wS hSw
            (try dsimp only at hSw)
            go_simp
            (try with_reducible rfl)
          (try simp only [Act.put, List.setIfInBounds_toArray, List.set_cons_zero, List.set_cons_succ])
          refine wpAnyH_take (i := 11) (oi := { dst := some 38, op := Go.Op.load 33 (Go.Operand.tmp 37), type := 33, pos := "ref.go:65", after := #[{ on := 10, ground := Go.Ground.data }], guard := none }) (v := ?_) rfl (by kernel_rfl) (by kernel_rfl) (by kernel_rfl) (fun _ _ _ h => h) (Or.inl ⟨by rfl, ?_⟩) (by assumption) ?_
          rotate_left
          · intro wS hSw
            (have h0 := hSw.c2; go_simp; (try with_reducible rfl))
          (try simp only [Act.put, List.setIfInBounds_toArray, List.set_cons_zero, List.set_cons_succ])
          refine wpAnyH_take (i := 12) (oi := { dst := some 39, op := Go.Op.convert 33 9 (Go.Operand.tmp 38), type := 9, pos := "ref.go:65", after := #[{ on := 11, ground := Go.Ground.data }], guard := none }) (v := ?_) rfl (by kernel_rfl) (by kernel_rfl) (by kernel_rfl) (fun _ _ _ h => h) (Or.inl ⟨by rfl, ?_⟩) (by assumption) ?_
          rotate_left
          · intro wS hSw
            refine exec_convO (x := .tmp 38) (cap := p2) ?_ ?_ (HS2.out.1 ▸ hSw.v2.conv (c := p2)) <;> rfl
          (try simp only [Act.put, List.setIfInBounds_toArray, List.set_cons_zero, List.set_cons_succ])
          refine wpAnyH_take (i := 13) (oi := { dst := some 40, op := Go.Op.move (Go.Operand.tmp 4), type := 34, pos := "ref.go:65", after := #[], guard := none }) (v := ?_) rfl (by kernel_rfl) (by kernel_rfl) (by kernel_rfl) (fun _ _ _ h => h) (Or.inl ⟨by rfl, ?_⟩) (by assumption) ?_
          rotate_left
          · intro wS hSw
            (try dsimp only at hSw)
            go_simp
            (try with_reducible rfl)
          (try simp only [Act.put, List.setIfInBounds_toArray, List.set_cons_zero, List.set_cons_succ])
          refine wpAnyH_take (i := 14) (oi := { dst := some 41, op := Go.Op.slice 34 (Go.Operand.tmp 40) (some (Go.Operand.const (Go.Value.int Go.IntKind.i64 3))) none none, type := 34, pos := "ref.go:65", after := #[{ on := 13, ground := Go.Ground.data }], guard := none }) (v := ?_) rfl (by kernel_rfl) (by kernel_rfl) (by kernel_rfl) (fun _ _ _ h => h) (Or.inl ⟨by rfl, ?_⟩) (by assumption) ?_
          rotate_left
          · intro wS hSw
            (try dsimp only at hSw)
            go_simp
            (try with_reducible rfl)
          (try simp only [Act.put, List.setIfInBounds_toArray, List.set_cons_zero, List.set_cons_succ])
          refine wpAnyH_take (i := 15) (oi := { dst := some 42, op := Go.Op.build 36 #[(0, Go.Operand.tmp 32), (1, Go.Operand.tmp 35), (2, Go.Operand.tmp 39), (3, Go.Operand.tmp 41)], type := 36, pos := "ref.go:65", after := #[{ on := 5, ground := Go.Ground.data }, { on := 8, ground := Go.Ground.data }, { on := 12, ground := Go.Ground.data }, { on := 14, ground := Go.Ground.data }], guard := none }) (v := ?_) rfl (by kernel_rfl) (by kernel_rfl) (by kernel_rfl) (fun _ _ _ h => h) (Or.inl ⟨by rfl, ?_⟩) (by assumption) ?_
          rotate_left
          · intro wS hSw
            refine exec_buildM (parts := #[(0, .tmp 32), (1, .tmp 35), (2, .tmp 39), (3, .tmp 41)]) (ps := #[(0, .int .i64 k), (1, .slice o1 (fl B 1) p1), (2, .string S2), (3, .slice (some ⟨b, off + 3, none⟩) d cr)]) ?_ ?_ (buildR2 _ _ _ _ _ _ _ _) <;> first | rfl | (simp; done) | (simp; rfl) | (simp; exact ⟨rfl, rfl, rfl, rfl⟩)
          (try simp only [Act.put, List.setIfInBounds_toArray, List.set_cons_zero, List.set_cons_succ])
          refine wpAnyH_ready (rs := [16]) (by kernel_rfl) (by simp) ?_
          refine AllReadyH.cons (o := { dst := some 6, op := Go.Op.alloc 36, type := 0, pos := "ref.go:65", after := #[], guard := none }) rfl (fun K hK => ?_) AllReadyH.nil
          go_simp
          (obtain ⟨v_9, hw_9⟩ : ∃ q, W0.alloc (.cells zeroR 36) = q := ⟨_, rfl⟩; rw [hw_9]; have hb_9 : Below W0.heap.size W0 v_9 := (by rw [← hw_9]; exact (Below.refl _ _).alloc (Nat.le_refl _) _); have hG_9 : Blk v_9 W0.heap.size zeroR 36 := (by rw [← hw_9]; exact Blk.new _ _ _); have HKP : Hid (∀ w3, Below W0.heap.size W0 w3 → (DF w w.heap.size 36 b off m (fl B) (dG B) b0 f0 p0 k o1 p1 o2 p2) w3) := Lib.hid (fun w3 h => hS_0.later h); have hS_9 := hS_0.later hb_9; have hP_9 := hb_9; obtain ⟨gq, hgq⟩ : ∃ q, W0.heap.size = q := ⟨_, rfl⟩; have HGO : Hid (w.heap.size < gq) := Lib.hid (by rw [← hgq]; exact Blk.lt hS_0.r); rw [hgq] at hG_9 HKP hP_9 ⊢; clear hgq hb_9 hS_0 hw_9; skip)
          (try go_wp2_with fail)
          refine hK.out _ _ ?_ (fun hHeld => ?_)
          · (try dsimp only)
            first | assumption
          clear hK K
          (try simp only [Act.put, List.setIfInBounds_toArray, List.set_cons_zero, List.set_cons_succ])
          refine wpAnyH_ready (rs := [17]) (by kernel_rfl) (by simp) ?_
          refine AllReadyH.cons (o := { dst := none, op := Go.Op.store 36 (Go.Operand.tmp 6) (Go.Operand.tmp 42), type := 0, pos := "ref.go:65", after := #[{ on := 16, ground := Go.Ground.data }, { on := 15, ground := Go.Ground.data }, { on := 0, ground := Go.Ground.phase }, { on := 1, ground := Go.Ground.phase }, { on := 2, ground := Go.Ground.phase }, { on := 3, ground := Go.Ground.phase }, { on := 4, ground := Go.Ground.phase }, { on := 5, ground := Go.Ground.phase }, { on := 6, ground := Go.Ground.phase }, { on := 7, ground := Go.Ground.phase }, { on := 8, ground := Go.Ground.phase }, { on := 9, ground := Go.Ground.phase }, { on := 10, ground := Go.Ground.phase }, { on := 11, ground := Go.Ground.phase }, { on := 12, ground := Go.Ground.phase }, { on := 13, ground := Go.Ground.phase }, { on := 14, ground := Go.Ground.phase }, { on := 15, ground := Go.Ground.phase }, { on := 16, ground := Go.Ground.phase }], guard := none }) rfl (fun K hK => ?_) AllReadyH.nil
          (refine step_storeM (by rfl) 36 (.tmp 6) (.tmp 42) rfl gq 0 #[.int .i64 (k : Int), .slice o1 (fl B 1) p1, .string S2, .slice (some ⟨b, off + 3, none⟩) d cr] rfl rfl (Blk.thereAll hG_9 _ (Nat.le_refl 4)) (infoR2 _ rfl) (one4 _ _ _ _ ⟨rfl, rfl, rfl, rfl⟩) ?_; obtain ⟨v_10, hw_10⟩ : ∃ q, v_9.setCells gq 0 (#[.int .i64 (k : Int), .slice o1 (fl B 1) p1, .string S2, .slice (some ⟨b, off + 3, none⟩) d cr] : Array Value).toList = q := ⟨_, rfl⟩; rw [hw_10]; have hO_10 : Own gq v_9 v_10 := (by rw [← hw_10]; exact Own.setCells _ 0 _); have hS_10 := HKP.out _ (hP_9.trans (hO_10.below (Nat.le_refl _) (Nat.le_of_lt (Blk.lt hG_9)))); have hG_10 : Blk v_10 gq #[.int .i64 (k : Int), .slice o1 (fl B 1) p1, .string S2, .slice (some ⟨b, off + 3, none⟩) d cr] 36 := (by rw [← hw_10]; exact Blk.whole hG_9 rfl); clear hw_10 hG_9 hS_9  hP_9 hO_10 HKP; skip)
          refine hK.out _ _ ?_ (fun hHeld => ?_)
          · (try dsimp only)
            first | assumption
          clear hK K
          (try simp only [Act.put, List.setIfInBounds_toArray, List.set_cons_zero, List.set_cons_succ])
          refine wpAnyH_done (by kernel_rfl) ?_ _
          have HE := Lib.hid (And.intro hS_10 (And.intro (LBs.hi hS_10.l HDD.out) hG_10))
          clear hS_10  hG_10 k1
          have HMAY := Lib.hid (rmay_any (k : Int) o1 (some ⟨b, off + 3, none⟩) (fl B 1) p1 d cr S2 v_10 (by have := HK.out; omega) (by have := HK.out; omega) (by have := HE.out.1.v1; omega) (by have := HR.out; omega) (by rw [HS2.out.2]; have := HLL.out 2 (by have := HMM.out; omega); unfold maxLen; omega))
          have hmb : (decide (MB k (fl B 1) S2 d) = true ∧ DQ n B) ∨ (decide (MB k (fl B 1) S2 d) = false ∧ ¬ DQ n B) := by
            by_cases h : MB k (fl B 1) S2 d
            · exact .inl ⟨decide_eq_true h, HF.out, by rw [HM.out.1]; exact HMM.out.1, HK.out.2.2, by rw [HK.out.1, HM.out.1, HS2.out.1, show m - 3 = d by have := HDD.out; omega]; exact h⟩
            · exact .inr ⟨decide_eq_false h, fun h2 => h (by have h3 := h2.2.2.2; rw [HK.out.1, HM.out.1, HS2.out.1, show m - 3 = d by have := HDD.out; omega] at h3; exact h3)⟩
          rcases hmb with ⟨hmb, hdq⟩ | ⟨hmb, hdq⟩
          · rw [hmb] at HMAY
            have HQ : Hid (qz n B = k ∧ qn n B = fl B 1 ∧ qS n B = S2 ∧ qq n B = d ∧ dqE n B = 0) := Lib.hid ⟨by unfold qz; rw [if_pos hdq, HK.out.1], if_pos hdq, by unfold qS; rw [if_pos hdq, HS2.out.1], by unfold qq; rw [if_pos hdq, HM.out.1]; (try (have := HDD.out; omega)), if_pos hdq⟩
            clear hmb hdq
            go_wp2_with (first | (refine wpList_load_row rfl 36 (.tmp 6) rfl gq rfl 36 #[.int .i64 (k : Int), .slice o1 (fl B 1) p1, .string S2, .slice (some ⟨b, off + 3, none⟩) d cr] (0, 0) _ HE.out.2.2 Tryd.underlying36 rfl (infoR2 _ rfl) ?_))
            refine HMAY.out.mono ?_
            clear HMAY
            rintro e y1 ⟨rfl, hb1⟩
            have HE1 : Hid ((DF w w.heap.size 36 b off m (fl B) (dG B) b0 f0 p0 k o1 p1 o2 p2) y1 ∧ LBs y1 (some ⟨b, off + 3, none⟩) d (fun i => fl B (3 + i)) (fun i => dG B (3 + i)) ∧ Blk y1 gq #[.int .i64 (k : Int), .slice o1 (fl B 1) p1, .string S2, .slice (some ⟨b, off + 3, none⟩) d cr] 36) := Lib.hid ⟨HE.out.1.later hb1, HE.out.2.1.later hb1, Blk.below HE.out.2.2 hb1 (Blk.lt HE.out.2.2)⟩
            clear hb1 HE
            have HX : Hid (Blk (y1.setCells w.heap.size 0 (#[.int .i64 (k : Int), .slice o1 (fl B 1) p1, .string S2, .slice (some ⟨b, off + 3, none⟩) d cr] : Array Value).toList) w.heap.size #[.int .i64 (k : Int), .slice o1 (fl B 1) p1, .string S2, .slice (some ⟨b, off + 3, none⟩) d cr] 36 ∧ y1.there w.heap.size 0 (#[.int .i64 (k : Int), .slice o1 (fl B 1) p1, .string S2, .slice (some ⟨b, off + 3, none⟩) d cr] : Array Value).size ∧ Own w.heap.size y1 (y1.setCells w.heap.size 0 (#[.int .i64 (k : Int), .slice o1 (fl B 1) p1, .string S2, .slice (some ⟨b, off + 3, none⟩) d cr] : Array Value).toList)) := Lib.hid ⟨Blk.whole HE1.out.1.r rfl, Blk.thereAll HE1.out.1.r _ (Nat.le_refl 4), Own.setCells _ 0 _⟩
            have HY : Hid (QV (y1.setCells w.heap.size 0 (#[.int .i64 (k : Int), .slice o1 (fl B 1) p1, .string S2, .slice (some ⟨b, off + 3, none⟩) d cr] : Array Value).toList) (.agg #[.int .i64 (k : Int), .slice o1 (fl B 1) p1, .string S2, .slice (some ⟨b, off + 3, none⟩) d cr]) k (fl B 1) (dG B 1) S2 d (fun i => fl B (3 + i)) (fun i => dG B (3 + i)) ∧ Below w.heap.size w (y1.setCells w.heap.size 0 (#[.int .i64 (k : Int), .slice o1 (fl B 1) p1, .string S2, .slice (some ⟨b, off + 3, none⟩) d cr] : Array Value).toList)) := Lib.hid ⟨⟨o1, p1, (some ⟨b, off + 3, none⟩), cr, rfl, HE1.out.1.v1.1.keep HX.out.2.2 HE1.out.1.r (fun k x => zeroR_u8 k x), HE1.out.1.v1.2.1, HE1.out.1.v1.2.2.1, HE1.out.1.v1.2.2.2, HE1.out.2.1.keep HX.out.2.2 (HRW.out) HE1.out.1.r (fun k x => zeroR_u8 k x), (by first | exact HR.out.1 | (intro _; rfl)), HR.out.2.1, HR.out.2.2⟩, HE1.out.1.o.trans (HX.out.2.2.below (Nat.le_refl _) HE1.out.1.o.size)⟩
            go_wp2_with (first | (refine wpList_load_row rfl 36 (.tmp 6) rfl gq rfl 36 #[.int .i64 (k : Int), .slice o1 (fl B 1) p1, .string S2, .slice (some ⟨b, off + 3, none⟩) d cr] (0, 0) _ HE1.out.2.2 Tryd.underlying36 rfl (infoR2 _ rfl) ?_) | (refine wpList_store_mid rfl 36 (.tmp 2) (.tmp 47) rfl w.heap.size 0 #[.int .i64 (k : Int), .slice o1 (fl B 1) p1, .string S2, .slice (some ⟨b, off + 3, none⟩) d cr] rfl rfl HX.out.2.1 (infoR2 _ rfl) (one4 _ _ _ _ ⟨rfl, rfl, rfl, rfl⟩) ?_))
            refine bodyPost_ret (v := .tuple #[.agg #[.int .i64 (k : Int), .slice o1 (fl B 1) p1, .string S2, .slice (some ⟨b, off + 3, none⟩) d cr], (.int .i64 0)]) ?_ ?_ ?_
            · exact results_cell_tmp Tryd.results25 _ _ w.heap.size 36 #[.int .i64 (k : Int), .slice o1 (fl B 1) p1, .string S2, .slice (some ⟨b, off + 3, none⟩) d cr] (0, 0) _ rfl HX.out.1 Tryd.underlying36 rfl (infoR2 _ rfl)
            · rfl
            · (obtain ⟨q1, q2, q3, q4, q5⟩ := HQ.out; rw [q1, q2, q3, q4, q5]; exact ⟨.agg #[.int .i64 (k : Int), .slice o1 (fl B 1) p1, .string S2, .slice (some ⟨b, off + 3, none⟩) d cr], rfl, HY.out.1, HY.out.2⟩)
          · rw [hmb] at HMAY
            have HQ : Hid (qz n B = 0 ∧ qn n B = 0 ∧ qS n B = ⟨#[]⟩ ∧ qq n B = 0 ∧ dqE n B = 4) := Lib.hid ⟨if_neg hdq, if_neg hdq, if_neg hdq, if_neg hdq, by unfold dqE; rw [if_neg hdq, if_pos HF.out]⟩
            clear hmb hdq
            go_wp2_with (first | (refine wpList_load_row rfl 36 (.tmp 6) rfl gq rfl 36 #[.int .i64 (k : Int), .slice o1 (fl B 1) p1, .string S2, .slice (some ⟨b, off + 3, none⟩) d cr] (0, 0) _ HE.out.2.2 Tryd.underlying36 rfl (infoR2 _ rfl) ?_))
            refine HMAY.out.mono ?_
            clear HMAY
            rintro e y1 ⟨rfl, hb1⟩
            have HE1 : Hid (Blk y1 w.heap.size zeroR 36 ∧ Below w.heap.size w y1) := Lib.hid ⟨(HE.out.1.later hb1).r, (HE.out.1.later hb1).o⟩
            clear hb1 HE
            have HX : Hid (Blk (y1.setCells w.heap.size 0 zeroR.toList) w.heap.size zeroR 36 ∧ y1.there w.heap.size 0 zeroR.size ∧ Below w.heap.size w (y1.setCells w.heap.size 0 zeroR.toList)) := Lib.hid ⟨Blk.whole HE1.out.1 rfl, Blk.thereAll HE1.out.1 _ (Nat.le_refl _), HE1.out.2.trans ((Own.setCells _ 0 _).below (Nat.le_refl _) HE1.out.2.size)⟩
            go_wp2_with (first | (refine wpList_store_mid rfl 36 (.tmp 2) (.tmp 46) rfl w.heap.size 0 zeroR rfl rfl HX.out.2.1 (infoR2 _ rfl) zeroR_one ?_))
            refine bodyPost_ret (v := .tuple #[.agg zeroR, (.int .i64 4)]) ?_ ?_ ?_
            · exact results_cell_tmp Tryd.results25 _ _ w.heap.size 36 zeroR (0, 0) _ rfl HX.out.1 Tryd.underlying36 rfl (infoR2 _ rfl)
            · rfl
            · (obtain ⟨q1, q2, q3, q4, q5⟩ := HQ.out; rw [q1, q2, q3, q4, q5]; exact ⟨.agg zeroR, rfl, QV.zero _ _ _ _, HX.out.2.2⟩)
end Go.Proofs.YtmabhjifldafaaaDoor
