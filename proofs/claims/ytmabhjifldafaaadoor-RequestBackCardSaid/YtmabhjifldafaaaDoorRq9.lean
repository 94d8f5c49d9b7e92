/- The response of bytes. -/
import Derived.Test.YtmabhjifldafaaaDoorRq6
import Derived.Test.YtmabhjifldafaaaDoorRq8
namespace Go.Proofs.YtmabhjifldafaaaDoor
set_option linter.unusedVariables false
set_option linter.unusedSimpArgs false
open Go.RowKit

def DP (n : Nat) (B : Nat → Nat) : Prop := Fits n B ∧ 1 ≤ B 0 ∧ fl B 0 = 2
instance (n : Nat) (B : Nat → Nat) : Decidable (DP n B) := by unfold DP; infer_instance
def dpE (n : Nat) (B : Nat → Nat) : Nat := if DP n B then 0 else if Fits n B then 4 else if 1024 < n then 3 else 4
def pc (n : Nat) (B : Nat → Nat) : Nat := if DP n B then 256 * dG B 0 0 + dG B 0 1 else 0
def pq (n : Nat) (B : Nat → Nat) : Nat := if DP n B then B 0 - 1 else 0
/-- A response by value. -/
def PV (w : World) (r : Value) (z : Int) (q : Nat) (L : Nat → Nat) (G : Nat → Nat → Nat) : Prop :=
  ∃ oa ca, r = .agg #[.int .i64 z, .slice oa q ca] ∧ LBs w oa q L G ∧ (oa = none → q = 0) ∧ q ≤ ca ∧ ca ≤ maxLen
theorem PV.later {w w' : World} {r : Value} {z : Int} {q : Nat} {L : Nat → Nat} {G : Nat → Nat → Nat} (h : PV w r z q L G) (hb : Below w.heap.size w w') : PV w' r z q L G := by
  obtain ⟨oa, ca, h1, h6, h7, h8, h9⟩ := h
  exact ⟨oa, ca, h1, h6.later hb, h7, h8, h9⟩
def zeroP : Array Value := #[.int .i64 0, .slice none 0 0]
theorem PV.zero (w : World) (L : Nat → Nat) (G : Nat → Nat → Nat) : PV w (.agg zeroP) 0 0 L G := ⟨none, 0, rfl, LBs.zero _ _ _ _, fun _ => rfl, Nat.le_refl _, by unfold maxLen; omega⟩
theorem zeroP_run (w : World) : (zeroValue 52).run Tryd.prog w = .ok (.agg zeroP) w := by kernel_rfl
theorem zeroP_run2 (w : World) : (zeroValue 38).run Tryd.prog w = .ok (.agg zeroP) w := by kernel_rfl
theorem zeroP_one : zeroP.all (·.oneCell') = true := by simp [zeroP, Value.oneCell']
theorem zeroP_u8 (k : Nat) (x : Int) : zeroP[k]? ≠ some (Value.int .u8 x) := by
  intro h
  match k, h with
  | 0, h => cases h
  | 1, h => cases h
theorem zeroP_sl (k : Nat) (a : Addr) (n c : Nat) : zeroP[k]? ≠ some (Value.slice (some a) n c) := by
  intro h
  match k, h with
  | 0, h => cases h
  | 1, h => cases h
theorem buildP (z : Int) (o2 : Option Addr) (n2 c2 : Nat) (w : World) : (Instr.build 52 #[(0, .int .i64 z), (1, .slice o2 n2 c2)]).run Tryd.prog w = .ok (.agg #[.int .i64 z, .slice o2 n2 c2]) w :=
  run_build w 52 _ _ (by kernel_rfl)
theorem buildP2 (z : Int) (o2 : Option Addr) (n2 c2 : Nat) (w : World) : (Instr.build 38 #[(0, .int .i64 z), (1, .slice o2 n2 c2)]).run Tryd.prog w = .ok (.agg #[.int .i64 z, .slice o2 n2 c2]) w :=
  run_build w 38 _ _ (by kernel_rfl)
theorem infoP (C : Array Value) (h : C.size = 2) : (Tryd.prog.info? 52).map (·.size) = some C.size := by rw [h]; kernel_rfl
theorem infoP2 (C : Array Value) (h : C.size = 2) : (Tryd.prog.info? 38).map (·.size) = some C.size := by rw [h]; kernel_rfl
theorem one2 (a b : Value) (h : a.oneCell' = true ∧ b.oneCell' = true) : #[a, b].all (·.oneCell') = true := by simp [h]
theorem orI9 {x y q s : Nat} (hx : x < 256) (hy : y < 256) (hq : x * 256 = q) (hs : q + y = s) : bits .or .i64 (q : Int) (y : Int) = (s : Int) := by
  have h := bits_join .i64 63 (by decide) (fun n h0 h1 => IntWalk.i64_in n (by omega)) 8 (q : Int) (y : Int) (by omega) (by omega) (by omega) (by omega) (by omega) (by omega)
  rw [h]; omega
/-- What is there while a response is read. -/
structure EF (w0 : World) (b off m : Nat) (L : Nat → Nat) (G : Nat → Nat → Nat) (b0 f0 p0 k x9 : Nat) (wr : World) : Prop where
  l : LBs wr (some ⟨b, off, none⟩) m L G
  c0 : wr.cell? ⟨b, off, none⟩ = some (.slice (some ⟨b0, f0, none⟩) 2 p0)
  x0 : wr.cell? ⟨b0, f0, none⟩ = some (.int .u8 (k : Nat))
  x1 : wr.cell? ⟨b0, f0 + 1, none⟩ = some (.int .u8 (x9 : Nat))
  o : Below w0.heap.size w0 wr
theorem EF.later {w0 wr w' : World} {b off m : Nat} {L : Nat → Nat} {G : Nat → Nat → Nat} {b0 f0 p0 k l : Nat} (h : EF w0 b off m L G b0 f0 p0 k l wr) (hb : Below wr.heap.size wr w') : EF w0 b off m L G b0 f0 p0 k l w' :=
  ⟨h.l.later hb, cell_below hb h.c0, cell_below hb h.x0, cell_below hb h.x1, h.o.trans (hb.mono h.o.size)⟩
theorem EF.own {w0 wr w' : World} {b off m : Nat} {L : Nat → Nat} {G : Nat → Nat → Nat} {b0 f0 p0 k l : Nat} {t : TypeId} (h : EF w0 b off m L G b0 f0 p0 k l wr) (hO : Own w0.heap.size wr w') (hB : Blk wr w0.heap.size zeroP t) : EF w0 b off m L G b0 f0 p0 k l w' := by
  have hb : b ≠ w0.heap.size := fun e => by have h1 := h.c0; rw [e, Blk.cell hB] at h1; exact zeroP_sl _ _ _ _ h1
  have hb0 : b0 ≠ w0.heap.size := fun e => by have h1 := h.x0; rw [e, Blk.cell hB] at h1; exact zeroP_u8 _ _ h1
  exact ⟨h.l.keep hO (fun a ha _ => by cases ha; exact hb) hB zeroP_u8, hO.cell h.c0 hb, hO.cell h.x0 hb0, hO.cell h.x1 hb0, h.o.trans (hO.below (Nat.le_refl _) h.o.size)⟩
set_option maxRecDepth 100000 in
set_option maxHeartbeats 8000000 in
theorem dec_p (ob : Option Addr) (n cap : Nat) (B : Nat → Nat) (w : World) (hB : Bytes w ob n B) (hc : n ≤ cap) (hm : cap ≤ maxLen) :
    Calls Tryd.prog 28 #[.slice ob n cap] w fun e w' => ∃ r v, e = .returned (.tuple #[r, v]) ∧ PV w' r (pc n B : Nat) (pq n B) (fun i => fl B (1 + i)) (fun i => dG B (1 + i)) ∧ Er v (dpE n B) ∧ Below w.heap.size w w' := by
  have hz := zeroP_run
  obtain ⟨wa, hwa⟩ : ∃ x, w.alloc (.cells zeroP 52) = x := ⟨_, rfl⟩
  have hba : Below w.heap.size w wa := by rw [← hwa]; exact (Below.refl _ _).alloc (Nat.le_refl _) _
  have HA : Hid (Blk wa w.heap.size zeroP 52 ∧ Below w.heap.size w wa) := Lib.hid ⟨by rw [← hwa]; exact Blk.new _ _ _, hba⟩
  have HD := Lib.hid (dec_any ob n cap B wa (hB.later hba) hc hm)
  clear hba hB hc hm
  go_enter Tryd.func28, Tryd.ntmps28
  go_wp2_with fail
  refine HD.out.mono ?_
  clear HD
  rintro e w1 ⟨hb1, hr1⟩
  have H1 : Hid (Blk w1 w.heap.size zeroP 52 ∧ Below w.heap.size w w1) := Lib.hid ⟨Blk.below HA.out.1 hb1 (Blk.lt HA.out.1), HA.out.2.trans (hb1.mono HA.out.2.size)⟩
  clear hb1 HA hwa
  rcases hr1 with ⟨hf, oa, c, rfl, hl, hno, hcc, hcm⟩ | ⟨hbig, rfl⟩ | ⟨hsm, hnf, rfl⟩
  case inr.inl =>
    have hd : ¬ DP n B := fun h => by have := h.1.2.1; omega
    have HQ : Hid (pc n B = 0 ∧ pq n B = 0 ∧ dpE n B = 3) := Lib.hid ⟨if_neg hd, if_neg hd, by unfold dpE; rw [if_neg hd]; rw [if_neg (fun h => by have := h.2.1; omega), if_pos hbig]⟩
    clear hd
    clear hbig
    have HX : Hid (Blk (w1.setCells w.heap.size 0 zeroP.toList) w.heap.size zeroP 52 ∧ w1.there w.heap.size 0 zeroP.size ∧ Below w.heap.size w (w1.setCells w.heap.size 0 zeroP.toList)) := Lib.hid ⟨Blk.whole H1.out.1 rfl, Blk.thereAll H1.out.1 _ (Nat.le_refl _), H1.out.2.trans ((Own.setCells _ 0 _).below (Nat.le_refl _) H1.out.2.size)⟩
    go_wp2_with (first | (refine wpList_store_mid rfl 52 (.tmp 2) (.tmp 13) rfl w.heap.size 0 zeroP rfl rfl HX.out.2.1 (infoP _ rfl) zeroP_one ?_))
    refine bodyPost_ret (v := .tuple #[.agg zeroP, (.iface 118 (.int .i64 3))]) ?_ ?_ ?_
    · exact results_cell_tmp Tryd.results28 _ _ w.heap.size 52 zeroP (0, 0) _ rfl HX.out.1 Tryd.underlying52 rfl (infoP _ rfl)
    · rfl
    · (obtain ⟨q1, q2, q3⟩ := HQ.out; rw [q1, q2, q3]; exact ⟨.agg zeroP, (.iface 118 (.int .i64 3)), rfl, PV.zero _ _ _, .inr ⟨rfl, by decide⟩, HX.out.2.2⟩)
  case inr.inr =>
    have hd : ¬ DP n B := fun h => hnf h.1
    have HQ : Hid (pc n B = 0 ∧ pq n B = 0 ∧ dpE n B = 4) := Lib.hid ⟨if_neg hd, if_neg hd, by unfold dpE; rw [if_neg hd]; rw [if_neg hnf, if_neg (by omega)]⟩
    clear hd
    clear hsm hnf
    have HX : Hid (Blk (w1.setCells w.heap.size 0 zeroP.toList) w.heap.size zeroP 52 ∧ w1.there w.heap.size 0 zeroP.size ∧ Below w.heap.size w (w1.setCells w.heap.size 0 zeroP.toList)) := Lib.hid ⟨Blk.whole H1.out.1 rfl, Blk.thereAll H1.out.1 _ (Nat.le_refl _), H1.out.2.trans ((Own.setCells _ 0 _).below (Nat.le_refl _) H1.out.2.size)⟩
    go_wp2_with (first | (refine wpList_store_mid rfl 52 (.tmp 2) (.tmp 13) rfl w.heap.size 0 zeroP rfl rfl HX.out.2.1 (infoP _ rfl) zeroP_one ?_))
    refine bodyPost_ret (v := .tuple #[.agg zeroP, (.iface 118 (.int .i64 4))]) ?_ ?_ ?_
    · exact results_cell_tmp Tryd.results28 _ _ w.heap.size 52 zeroP (0, 0) _ rfl HX.out.1 Tryd.underlying52 rfl (infoP _ rfl)
    · rfl
    · (obtain ⟨q1, q2, q3⟩ := HQ.out; rw [q1, q2, q3]; exact ⟨.agg zeroP, (.iface 118 (.int .i64 4)), rfl, PV.zero _ _ _, .inr ⟨rfl, by decide⟩, HX.out.2.2⟩)
  case inl =>
    have HF := Lib.hid hf
    obtain ⟨m, hmE⟩ : ∃ m, B 0 = m := ⟨_, rfl⟩
    have HM : Hid (B 0 = m ∧ m ≤ 16) := Lib.hid ⟨hmE, by have := hf.2.2.1; omega⟩
    rw [hmE] at hl hno hcc ⊢
    by_cases h3 : m < 1
    · have g1 : (m : Int) < 1 := by omega
      have hd : ¬ DP n B := fun h => by have := h.2.1; omega
      have HQ : Hid (pc n B = 0 ∧ pq n B = 0 ∧ dpE n B = 4) := Lib.hid ⟨if_neg hd, if_neg hd, by unfold dpE; rw [if_neg hd]; rw [if_pos hf]⟩
      clear hd
      clear hf hl hno hcc hcm hmE h3
      have HX : Hid (Blk (w1.setCells w.heap.size 0 zeroP.toList) w.heap.size zeroP 52 ∧ w1.there w.heap.size 0 zeroP.size ∧ Below w.heap.size w (w1.setCells w.heap.size 0 zeroP.toList)) := Lib.hid ⟨Blk.whole H1.out.1 rfl, Blk.thereAll H1.out.1 _ (Nat.le_refl _), H1.out.2.trans ((Own.setCells _ 0 _).below (Nat.le_refl _) H1.out.2.size)⟩
      go_wp2_with (first | (refine wpList_store_mid rfl 52 (.tmp 2) (.tmp 25) rfl w.heap.size 0 zeroP rfl rfl HX.out.2.1 (infoP _ rfl) zeroP_one ?_))
      refine bodyPost_ret (v := .tuple #[.agg zeroP, (.iface 118 (.int .i64 4))]) ?_ ?_ ?_
      · exact results_cell_tmp Tryd.results28 _ _ w.heap.size 52 zeroP (0, 0) _ rfl HX.out.1 Tryd.underlying52 rfl (infoP _ rfl)
      · rfl
      · (obtain ⟨q1, q2, q3⟩ := HQ.out; rw [q1, q2, q3]; exact ⟨.agg zeroP, (.iface 118 (.int .i64 4)), rfl, PV.zero _ _ _, .inr ⟨rfl, by decide⟩, HX.out.2.2⟩)
    · have g1 : ¬ (m : Int) < 1 := by omega
      have g1' : decide ((m : Int) < 1) = false := decide_eq_false g1
      obtain ⟨b, off, od0, p0, rfl, hc0, hlp0, hB0, hn0, hm0⟩ := hl 0 (by omega)
      obtain ⟨y, hy⟩ : ∃ y, fl B 0 = y := ⟨_, rfl⟩
      rw [hy] at hc0 hlp0 hB0 hn0
      have y9 : (y : Int) ≤ 9223372036854775807 := by unfold maxLen at hm0; omega
      have g2 : (0 : Int) < (m : Int) := by omega
      have g3 : 0 < m := by omega
      have c0 : w1.cell? ⟨b, off, none⟩ = some (.slice od0 y p0) := hc0
      by_cases h1 : y = 2
      case neg =>
        have g8 : ¬ (y : Int) = 2 := by omega
        have hd : ¬ DP n B := fun h => h1 (by have := h.2.2; omega)
        have HQ : Hid (pc n B = 0 ∧ pq n B = 0 ∧ dpE n B = 4) := Lib.hid ⟨if_neg hd, if_neg hd, by unfold dpE; rw [if_neg hd]; rw [if_pos hf]⟩
        clear hd
        clear hf hl hno hcc hcm hmE h3 hc0 hlp0 hB0 hn0 hm0 h1 hy
        have HX : Hid (Blk (w1.setCells w.heap.size 0 zeroP.toList) w.heap.size zeroP 52 ∧ w1.there w.heap.size 0 zeroP.size ∧ Below w.heap.size w (w1.setCells w.heap.size 0 zeroP.toList)) := Lib.hid ⟨Blk.whole H1.out.1 rfl, Blk.thereAll H1.out.1 _ (Nat.le_refl _), H1.out.2.trans ((Own.setCells _ 0 _).below (Nat.le_refl _) H1.out.2.size)⟩
        go_wp2_with (first | (refine wpList_store_mid rfl 52 (.tmp 2) (.tmp 25) rfl w.heap.size 0 zeroP rfl rfl HX.out.2.1 (infoP _ rfl) zeroP_one ?_))
        refine bodyPost_ret (v := .tuple #[.agg zeroP, (.iface 118 (.int .i64 4))]) ?_ ?_ ?_
        · exact results_cell_tmp Tryd.results28 _ _ w.heap.size 52 zeroP (0, 0) _ rfl HX.out.1 Tryd.underlying52 rfl (infoP _ rfl)
        · rfl
        · (obtain ⟨q1, q2, q3⟩ := HQ.out; rw [q1, q2, q3]; exact ⟨.agg zeroP, (.iface 118 (.int .i64 4)), rfl, PV.zero _ _ _, .inr ⟨rfl, by decide⟩, HX.out.2.2⟩)
      case pos =>
        subst h1
        obtain ⟨hk8, b0, f0, rfl, hx0⟩ := hB0 0 (by omega)
        obtain ⟨hl8, _, _, e9, hx1⟩ := hB0 1 (by omega)
        cases e9
        obtain ⟨k, hk⟩ : ∃ k, dG B 0 0 = k := ⟨_, rfl⟩
        obtain ⟨l, hl9⟩ : ∃ k, dG B 0 1 = k := ⟨_, rfl⟩
        rw [hk] at hk8 hx0
        rw [hl9] at hl8 hx1
        obtain ⟨qx, hqx⟩ : ∃ x, k * 256 = x := ⟨_, rfl⟩
        obtain ⟨s, hs⟩ : ∃ x, qx + l = x := ⟨_, rfl⟩
        have hdp : DP n B := ⟨hf, by rw [hmE]; omega, hy⟩
        obtain ⟨d, hd⟩ : ∃ d, m - 1 = d := ⟨_, rfl⟩
        have HQ : Hid (pc n B = s ∧ pq n B = d ∧ dpE n B = 0) := Lib.hid ⟨by unfold pc; rw [if_pos hdp, hk, hl9]; omega, by unfold pq; rw [if_pos hdp, hmE]; exact hd, if_pos hdp⟩
        have hS1 : EF w b off m (fl B) (dG B) b0 f0 p0 k l w1 := ⟨hl, hc0, hx0, hx1, H1.out.2⟩
        have HMM : Hid (1 ≤ m ∧ m ≤ 16 ∧ m ≤ c ∧ c ≤ maxLen) := Lib.hid ⟨by omega, HM.out.2, hcc, hcm⟩
        have HLL : Hid (∀ i, i < m → fl B i ≤ 1024) := Lib.hid fun i hi => by have h1 := hf.at (i := i) (by rw [hmE]; exact hi); have := hf.2.1; omega
        have k1 : IntKind.i64.wrap (k : Int) = (k : Int) := IntWalk.i64_in _ (by omega)
        have k2 : IntKind.i64.wrap (l : Int) = (l : Int) := IntWalk.i64_in _ (by omega)
        have k3 : (k : Int) * 256 = (qx : Int) := by omega
        have k4 : (256 : Int) * (k : Int) = (qx : Int) := by omega
        have k5 : IntKind.i64.wrap (qx : Int) = (qx : Int) := IntWalk.i64_in _ (by omega)
        have k6 := orI9 hk8 hl8 hqx hs
        have k7 : (qx : Int) + (l : Int) = (s : Int) := by omega
        have k8 : IntKind.i64.wrap (s : Int) = (s : Int) := IntWalk.i64_in _ (by omega)
        have k9 : (k : Int) * 2 ^ 8 = (qx : Int) := k3
        have HDD : Hid (1 + d = m) := Lib.hid (by omega)
        have HS1 := Lib.hid hS1
        clear hf hl hno hcc hcm hmE h3 hc0 hlp0 hB0 hn0 hm0 hy hk8 hl8 hx0 hx1 hk hl9 hS1 hd hqx hs hdp
        go_wp2_with fail
        have hS_0 := HS1.out.later (Below.refl _ w1).drew
        have hB_0 : Blk w1.drew w.heap.size zeroP 52 := Blk.drew H1.out.1
        clear HS1 c0 H1
        refine wp_region_held_drew (S := (EF w b off m (fl B) (dG B) b0 f0 p0 k l)) (by kernel_rfl) ?_ (fun hHeld => ?_)
        · (try dsimp only)
          first | assumption
        generalize w1.drew = W0 at *
        refine wpAnyH_take (i := 0) (oi := { dst := some 27, op := Go.Op.move (Go.Operand.tmp 4), type := 34, pos := "request.go:194", after := #[], guard := none }) (v := ?_) rfl (by kernel_rfl) (by kernel_rfl) (by kernel_rfl) (fun _ _ _ h => h) (Or.inl ⟨by rfl, ?_⟩) (by assumption) ?_
        rotate_left
        · intro wS hSw
          (try dsimp only at hSw)
          go_simp
          (try with_reducible rfl)
        (try simp only [Act.put, List.setIfInBounds_toArray, List.set_cons_zero, List.set_cons_succ])
        refine wpAnyH_take (i := 1) (oi := { dst := some 28, op := Go.Op.indexAddr 34 (Go.Operand.tmp 27) (Go.Operand.const (Go.Value.int Go.IntKind.i64 0)), type := 0, pos := "request.go:194", after := #[{ on := 0, ground := Go.Ground.data }], guard := none }) (v := ?_) rfl (by kernel_rfl) (by kernel_rfl) (by kernel_rfl) (fun _ _ _ h => h) (Or.inl ⟨by rfl, ?_⟩) (by assumption) ?_
        rotate_left
        · intro wS hSw
          (try dsimp only at hSw)
          go_simp
          (try with_reducible rfl)
        (try simp only [Act.put, List.setIfInBounds_toArray, List.set_cons_zero, List.set_cons_succ])
        refine wpAnyH_take (i := 2) (oi := { dst := some 29, op := Go.Op.load 33 (Go.Operand.tmp 28), type := 33, pos := "request.go:194", after := #[{ on := 1, ground := Go.Ground.data }], guard := none }) (v := ?_) rfl (by kernel_rfl) (by kernel_rfl) (by kernel_rfl) (fun _ _ _ h => h) (Or.inl ⟨by rfl, ?_⟩) (by assumption) ?_
        rotate_left
        · intro wS hSw
          (have h0 := hSw.c0; go_simp; (try with_reducible rfl))
        (try simp only [Act.put, List.setIfInBounds_toArray, List.set_cons_zero, List.set_cons_succ])
        refine wpAnyH_take (i := 3) (oi := { dst := some 30, op := Go.Op.indexAddr 33 (Go.Operand.tmp 29) (Go.Operand.const (Go.Value.int Go.IntKind.i64 0)), type := 0, pos := "request.go:194", after := #[{ on := 2, ground := Go.Ground.data }], guard := none }) (v := ?_) rfl (by kernel_rfl) (by kernel_rfl) (by kernel_rfl) (fun _ _ _ h => h) (Or.inl ⟨by rfl, ?_⟩) (by assumption) ?_
        rotate_left
        · intro wS hSw
          (try dsimp only at hSw)
          go_simp
          (try with_reducible rfl)
        (try simp only [Act.put, List.setIfInBounds_toArray, List.set_cons_zero, List.set_cons_succ])
        refine wpAnyH_take (i := 4) (oi := { dst := some 31, op := Go.Op.load 5 (Go.Operand.tmp 30), type := 5, pos := "request.go:194", after := #[{ on := 3, ground := Go.Ground.data }], guard := none }) (v := ?_) rfl (by kernel_rfl) (by kernel_rfl) (by kernel_rfl) (fun _ _ _ h => h) (Or.inl ⟨by rfl, ?_⟩) (by assumption) ?_
        rotate_left
        · intro wS hSw
          (have h0 := hSw.x0; go_simp; (try with_reducible rfl))
        (try simp only [Act.put, List.setIfInBounds_toArray, List.set_cons_zero, List.set_cons_succ])
        refine wpAnyH_take (i := 5) (oi := { dst := some 32, op := Go.Op.convert 5 3 (Go.Operand.tmp 31), type := 3, pos := "request.go:194", after := #[{ on := 4, ground := Go.Ground.data }], guard := none }) (v := ?_) rfl (by kernel_rfl) (by kernel_rfl) (by kernel_rfl) (fun _ _ _ h => h) (Or.inl ⟨by rfl, ?_⟩) (by assumption) ?_
        rotate_left
        · intro wS hSw
          (try dsimp only at hSw)
          go_simp
          (try with_reducible rfl)
        (try simp only [Act.put, List.setIfInBounds_toArray, List.set_cons_zero, List.set_cons_succ])
        refine wpAnyH_take (i := 6) (oi := { dst := some 33, op := Go.Op.binOp Go.BinOp.shl 3 (Go.Operand.tmp 32) (Go.Operand.const (Go.Value.int Go.IntKind.u64 8)) 103, type := 3, pos := "request.go:194", after := #[{ on := 5, ground := Go.Ground.data }], guard := none }) (v := ?_) rfl (by kernel_rfl) (by kernel_rfl) (by kernel_rfl) (fun _ _ _ h => h) (Or.inl ⟨by rfl, ?_⟩) (by assumption) ?_
        rotate_left
        · intro wS hSw
          (try dsimp only at hSw)
          go_simp
          (try with_reducible rfl)
        (try simp only [Act.put, List.setIfInBounds_toArray, List.set_cons_zero, List.set_cons_succ])
        refine wpAnyH_take (i := 7) (oi := { dst := some 34, op := Go.Op.move (Go.Operand.tmp 4), type := 34, pos := "request.go:194", after := #[], guard := none }) (v := ?_) rfl (by kernel_rfl) (by kernel_rfl) (by kernel_rfl) (fun _ _ _ h => h) (Or.inl ⟨by rfl, ?_⟩) (by assumption) ?_
        rotate_left
        · intro wS hSw
          (try dsimp only at hSw)
          go_simp
          (try with_reducible rfl)
        (try simp only [Act.put, List.setIfInBounds_toArray, List.set_cons_zero, List.set_cons_succ])
        refine wpAnyH_take (i := 8) (oi := { dst := some 35, op := Go.Op.indexAddr 34 (Go.Operand.tmp 34) (Go.Operand.const (Go.Value.int Go.IntKind.i64 0)), type := 0, pos := "request.go:194", after := #[{ on := 7, ground := Go.Ground.data }], guard := none }) (v := ?_) rfl (by kernel_rfl) (by kernel_rfl) (by kernel_rfl) (fun _ _ _ h => h) (Or.inl ⟨by rfl, ?_⟩) (by assumption) ?_
        rotate_left
        · intro wS hSw
          (try dsimp only at hSw)
          go_simp
          (try with_reducible rfl)
        (try simp only [Act.put, List.setIfInBounds_toArray, List.set_cons_zero, List.set_cons_succ])
        refine wpAnyH_take (i := 9) (oi := { dst := some 36, op := Go.Op.load 33 (Go.Operand.tmp 35), type := 33, pos := "request.go:194", after := #[{ on := 8, ground := Go.Ground.data }], guard := none }) (v := ?_) rfl (by kernel_rfl) (by kernel_rfl) (by kernel_rfl) (fun _ _ _ h => h) (Or.inl ⟨by rfl, ?_⟩) (by assumption) ?_
        rotate_left
        · intro wS hSw
          (have h0 := hSw.c0; go_simp; (try with_reducible rfl))
        (try simp only [Act.put, List.setIfInBounds_toArray, List.set_cons_zero, List.set_cons_succ])
        refine wpAnyH_take (i := 10) (oi := { dst := some 37, op := Go.Op.indexAddr 33 (Go.Operand.tmp 36) (Go.Operand.const (Go.Value.int Go.IntKind.i64 1)), type := 0, pos := "request.go:194", after := #[{ on := 9, ground := Go.Ground.data }], guard := none }) (v := ?_) rfl (by kernel_rfl) (by kernel_rfl) (by kernel_rfl) (fun _ _ _ h => h) (Or.inl ⟨by rfl, ?_⟩) (by assumption) ?_
        rotate_left
        · intro wS hSw
          (try dsimp only at hSw)
          go_simp
          (try with_reducible rfl)
        (try simp only [Act.put, List.setIfInBounds_toArray, List.set_cons_zero, List.set_cons_succ])
        refine wpAnyH_take (i := 11) (oi := { dst := some 38, op := Go.Op.load 5 (Go.Operand.tmp 37), type := 5, pos := "request.go:194", after := #[{ on := 10, ground := Go.Ground.data }], guard := none }) (v := ?_) rfl (by kernel_rfl) (by kernel_rfl) (by kernel_rfl) (fun _ _ _ h => h) (Or.inl ⟨by rfl, ?_⟩) (by assumption) ?_
        rotate_left
        · intro wS hSw
          (have h0 := hSw.x1; go_simp; (try with_reducible rfl))
        (try simp only [Act.put, List.setIfInBounds_toArray, List.set_cons_zero, List.set_cons_succ])
        refine wpAnyH_take (i := 12) (oi := { dst := some 39, op := Go.Op.convert 5 3 (Go.Operand.tmp 38), type := 3, pos := "request.go:194", after := #[{ on := 11, ground := Go.Ground.data }], guard := none }) (v := ?_) rfl (by kernel_rfl) (by kernel_rfl) (by kernel_rfl) (fun _ _ _ h => h) (Or.inl ⟨by rfl, ?_⟩) (by assumption) ?_
        rotate_left
        · intro wS hSw
          (try dsimp only at hSw)
          go_simp
          (try with_reducible rfl)
        (try simp only [Act.put, List.setIfInBounds_toArray, List.set_cons_zero, List.set_cons_succ])
        refine wpAnyH_take (i := 13) (oi := { dst := some 40, op := Go.Op.binOp Go.BinOp.or 3 (Go.Operand.tmp 33) (Go.Operand.tmp 39) 3, type := 3, pos := "request.go:194", after := #[{ on := 6, ground := Go.Ground.data }, { on := 12, ground := Go.Ground.data }], guard := none }) (v := ?_) rfl (by kernel_rfl) (by kernel_rfl) (by kernel_rfl) (fun _ _ _ h => h) (Or.inl ⟨by rfl, ?_⟩) (by assumption) ?_
        rotate_left
        · intro wS hSw
          (try dsimp only at hSw)
          go_simp
          (try with_reducible rfl)
        (try simp only [Act.put, List.setIfInBounds_toArray, List.set_cons_zero, List.set_cons_succ])
        refine wpAnyH_take (i := 14) (oi := { dst := some 41, op := Go.Op.move (Go.Operand.tmp 4), type := 34, pos := "request.go:194", after := #[], guard := none }) (v := ?_) rfl (by kernel_rfl) (by kernel_rfl) (by kernel_rfl) (fun _ _ _ h => h) (Or.inl ⟨by rfl, ?_⟩) (by assumption) ?_
        rotate_left
        · intro wS hSw
          (try dsimp only at hSw)
          go_simp
          (try with_reducible rfl)
        (try simp only [Act.put, List.setIfInBounds_toArray, List.set_cons_zero, List.set_cons_succ])
        refine wpAnyH_ready (rs := [15]) (by kernel_rfl) (by simp) ?_
        refine AllReadyH.cons (o := { dst := some 42, op := Go.Op.call { callee := Go.Callee.value (Go.Operand.func 70), args := #[Go.Operand.tmp 41, Go.Operand.const (Go.Value.int Go.IntKind.i64 1)], argTypes := #[34, 3] }, type := 34, pos := "request.go:194", after := #[{ on := 14, ground := Go.Ground.data }], guard := none }) rfl (fun K hK => ?_) AllReadyH.nil
        go_simp
        (refine (rest_any b off m c 1 d (fl B) (dG B) _ hS_0.l HMM.out.2.2.1 HMM.out.2.2.2 HDD.out (by have := HMM.out; omega) (fun i hi => by have := HLL.out i hi; omega)).mono ?_; rintro e v_1 ⟨or, cr, rfl, hZ_1, hrn, hrc, hrm, hrl, hb_1⟩; have HR := Lib.hid (And.intro hrn (And.intro hrc hrm)); have hS_1 := hS_0.later hb_1; have hB_1 := Blk.below hB_0 hb_1 (Blk.lt hB_0); have HRW : Hid (∀ a, or = some a → 0 < d → a.block ≠ w.heap.size) := Lib.hid (fun a ha _ => by have h1 := hrl a ha; have h2 := Blk.lt hB_0; omega); clear hrn hrc hrm hrl hb_1 hS_0 hB_0; skip)
        (try go_wp2_with fail)
        refine hK.out _ _ ?_ (fun hHeld => ?_)
        · (try dsimp only)
          first | assumption
        clear hK K
        (try simp only [Act.put, List.setIfInBounds_toArray, List.set_cons_zero, List.set_cons_succ])
        refine wpAnyH_take (i := 16) (oi := { dst := some 43, op := Go.Op.build 52 #[(0, Go.Operand.tmp 40), (1, Go.Operand.tmp 42)], type := 52, pos := "request.go:194", after := #[{ on := 13, ground := Go.Ground.data }, { on := 15, ground := Go.Ground.data }], guard := none }) (v := ?_) rfl (by kernel_rfl) (by kernel_rfl) (by kernel_rfl) (fun _ _ _ h => h) (Or.inl ⟨by rfl, ?_⟩) (by assumption) ?_
        rotate_left
        · intro wS hSw
          refine exec_buildM (parts := #[(0, .tmp 40), (1, .tmp 42)]) (ps := #[(0, .int .i64 s), (1, .slice or d cr)]) ?_ ?_ (buildP _ _ _ _) <;> first | rfl | (simp; done) | (simp; rfl) | (simp; exact ⟨rfl, rfl⟩)
        (try simp only [Act.put, List.setIfInBounds_toArray, List.set_cons_zero, List.set_cons_succ])
        refine wpAnyH_ready (rs := [17]) (by kernel_rfl) (by simp) ?_
        refine AllReadyH.cons (o := { dst := none, op := Go.Op.store 52 (Go.Operand.tmp 2) (Go.Operand.tmp 43), type := 0, pos := "request.go:194", after := #[{ on := 16, ground := Go.Ground.data }, { on := 15, ground := Go.Ground.chain }, { on := 0, ground := Go.Ground.phase }, { on := 1, ground := Go.Ground.phase }, { on := 2, ground := Go.Ground.phase }, { on := 3, ground := Go.Ground.phase }, { on := 4, ground := Go.Ground.phase }, { on := 5, ground := Go.Ground.phase }, { on := 6, ground := Go.Ground.phase }, { on := 7, ground := Go.Ground.phase }, { on := 8, ground := Go.Ground.phase }, { on := 9, ground := Go.Ground.phase }, { on := 10, ground := Go.Ground.phase }, { on := 11, ground := Go.Ground.phase }, { on := 12, ground := Go.Ground.phase }, { on := 13, ground := Go.Ground.phase }, { on := 14, ground := Go.Ground.phase }, { on := 15, ground := Go.Ground.phase }, { on := 16, ground := Go.Ground.phase }], guard := none }) rfl (fun K hK => ?_) AllReadyH.nil
        (refine step_storeM (by rfl) 52 (.tmp 2) (.tmp 43) rfl w.heap.size 0 #[.int .i64 (s : Int), .slice or d cr] rfl rfl (Blk.thereAll hB_1 _ (Nat.le_refl 2)) (infoP _ rfl) (one2 _ _ ⟨rfl, rfl⟩) ?_; obtain ⟨v_2, hw_2⟩ : ∃ q, v_1.setCells w.heap.size 0 (#[.int .i64 (s : Int), .slice or d cr] : Array Value).toList = q := ⟨_, rfl⟩; rw [hw_2]; have hO_2 : Own w.heap.size v_1 v_2 := (by rw [← hw_2]; exact Own.setCells _ 0 _); have hZ_2 := LBs.keep hZ_1 hO_2 HRW.out hB_1 zeroP_u8; have hS_2 := hS_1.own hO_2 hB_1; have hB_2 : Blk v_2 w.heap.size #[.int .i64 (s : Int), .slice or d cr] 52 := (by rw [← hw_2]; exact Blk.whole hB_1 rfl); clear hw_2 hB_1 hS_1 hZ_1 hO_2; skip)
        refine hK.out _ _ ?_ (fun hHeld => ?_)
        · (try dsimp only)
          first | assumption
        clear hK K
        (try simp only [Act.put, List.setIfInBounds_toArray, List.set_cons_zero, List.set_cons_succ])
        refine wpAnyH_take (i := 18) (oi := { dst := some 3, op := Go.Op.assign (Go.Operand.const Go.Value.nilIface), type := 41, pos := "request.go:194", after := #[{ on := 17, ground := Go.Ground.chain }, { on := 0, ground := Go.Ground.phase }, { on := 1, ground := Go.Ground.phase }, { on := 2, ground := Go.Ground.phase }, { on := 3, ground := Go.Ground.phase }, { on := 4, ground := Go.Ground.phase }, { on := 5, ground := Go.Ground.phase }, { on := 6, ground := Go.Ground.phase }, { on := 7, ground := Go.Ground.phase }, { on := 8, ground := Go.Ground.phase }, { on := 9, ground := Go.Ground.phase }, { on := 10, ground := Go.Ground.phase }, { on := 11, ground := Go.Ground.phase }, { on := 12, ground := Go.Ground.phase }, { on := 13, ground := Go.Ground.phase }, { on := 14, ground := Go.Ground.phase }, { on := 15, ground := Go.Ground.phase }, { on := 16, ground := Go.Ground.phase }, { on := 17, ground := Go.Ground.phase }], guard := none }) (v := ?_) rfl (by kernel_rfl) (by kernel_rfl) (by kernel_rfl) (fun _ _ _ h => h) (Or.inl ⟨by rfl, ?_⟩) (by assumption) ?_
        rotate_left
        · intro wS hSw
          (try dsimp only at hSw)
          go_simp
          (try with_reducible rfl)
        (try simp only [Act.put, List.setIfInBounds_toArray, List.set_cons_zero, List.set_cons_succ])
        refine wpAnyH_done (by kernel_rfl) ?_ _
        have HE := Lib.hid (And.intro hS_2 (And.intro hZ_2 hB_2))
        clear hS_2 hZ_2 hB_2 k1 k2 k3 k4 k5 k6 k7 k8 k9
        go_wp2_with fail
        refine bodyPost_ret (v := .tuple #[.agg #[.int .i64 (s : Int), .slice or d cr], .nilIface]) ?_ ?_ ?_
        · exact results_cell_tmp Tryd.results28 _ _ w.heap.size 52 #[.int .i64 (s : Int), .slice or d cr] (0, 0) _ rfl HE.out.2.2 Tryd.underlying52 rfl (infoP _ rfl)
        · rfl
        · (obtain ⟨q1, q2, q3⟩ := HQ.out; rw [q1, q2, q3]; exact ⟨.agg #[.int .i64 (s : Int), .slice or d cr], .nilIface, rfl, ⟨or, cr, rfl, HE.out.2.1, (by first | exact HR.out.1 | (intro _; rfl)), HR.out.2.1, HR.out.2.2⟩, .inl ⟨rfl, rfl⟩, HE.out.1.o⟩)
set_option maxRecDepth 100000 in
set_option maxHeartbeats 8000000 in
theorem rdec_p (ob : Option Addr) (n cap : Nat) (B : Nat → Nat) (w : World) (hB : Bytes w ob n B) (hc : n ≤ cap) (hm : cap ≤ maxLen) :
    Calls Tryd.prog 29 #[.slice ob n cap] w fun e w' => ∃ r, e = .returned (.tuple #[r, .int .i64 (dpE n B : Nat)]) ∧ PV w' r (pc n B : Nat) (pq n B) (fun i => fl B (1 + i)) (fun i => dG B (1 + i)) ∧ Below w.heap.size w w' := by
  have hz := zeroP_run2
  obtain ⟨wa, hwa⟩ : ∃ x, w.alloc (.cells zeroP 38) = x := ⟨_, rfl⟩
  have hba : Below w.heap.size w wa := by rw [← hwa]; exact (Below.refl _ _).alloc (Nat.le_refl _) _
  have HA : Hid (Blk wa w.heap.size zeroP 38 ∧ Below w.heap.size w wa) := Lib.hid ⟨by rw [← hwa]; exact Blk.new _ _ _, hba⟩
  have HD := Lib.hid (rdec_any ob n cap B wa (hB.later hba) hc hm)
  clear hba hB hc hm
  go_enter Tryd.func29, Tryd.ntmps29
  go_wp2_with fail
  refine HD.out.mono ?_
  clear HD
  rintro e w1 ⟨hb1, hr1⟩
  have H1 : Hid (Blk w1 w.heap.size zeroP 38 ∧ Below w.heap.size w w1) := Lib.hid ⟨Blk.below HA.out.1 hb1 (Blk.lt HA.out.1), HA.out.2.trans (hb1.mono HA.out.2.size)⟩
  clear hb1 HA hwa
  rcases hr1 with ⟨hf, oa, c, rfl, hl, hno, hcc, hcm⟩ | ⟨hbig, rfl⟩ | ⟨hsm, hnf, rfl⟩
  case inr.inl =>
    have hd : ¬ DP n B := fun h => by have := h.1.2.1; omega
    have HQ : Hid (pc n B = 0 ∧ pq n B = 0 ∧ dpE n B = 3) := Lib.hid ⟨if_neg hd, if_neg hd, by unfold dpE; rw [if_neg hd]; rw [if_neg (fun h => by have := h.2.1; omega), if_pos hbig]⟩
    clear hd
    clear hbig
    have HX : Hid (Blk (w1.setCells w.heap.size 0 zeroP.toList) w.heap.size zeroP 38 ∧ w1.there w.heap.size 0 zeroP.size ∧ Below w.heap.size w (w1.setCells w.heap.size 0 zeroP.toList)) := Lib.hid ⟨Blk.whole H1.out.1 rfl, Blk.thereAll H1.out.1 _ (Nat.le_refl _), H1.out.2.trans ((Own.setCells _ 0 _).below (Nat.le_refl _) H1.out.2.size)⟩
    go_wp2_with (first | (refine wpList_store_mid rfl 38 (.tmp 2) (.tmp 13) rfl w.heap.size 0 zeroP rfl rfl HX.out.2.1 (infoP2 _ rfl) zeroP_one ?_))
    refine bodyPost_ret (v := .tuple #[.agg zeroP, (.int .i64 3)]) ?_ ?_ ?_
    · exact results_cell_tmp Tryd.results29 _ _ w.heap.size 38 zeroP (0, 0) _ rfl HX.out.1 Tryd.underlying38 rfl (infoP2 _ rfl)
    · rfl
    · (obtain ⟨q1, q2, q3⟩ := HQ.out; rw [q1, q2, q3]; exact ⟨.agg zeroP, rfl, PV.zero _ _ _, HX.out.2.2⟩)
  case inr.inr =>
    have hd : ¬ DP n B := fun h => hnf h.1
    have HQ : Hid (pc n B = 0 ∧ pq n B = 0 ∧ dpE n B = 4) := Lib.hid ⟨if_neg hd, if_neg hd, by unfold dpE; rw [if_neg hd]; rw [if_neg hnf, if_neg (by omega)]⟩
    clear hd
    clear hsm hnf
    have HX : Hid (Blk (w1.setCells w.heap.size 0 zeroP.toList) w.heap.size zeroP 38 ∧ w1.there w.heap.size 0 zeroP.size ∧ Below w.heap.size w (w1.setCells w.heap.size 0 zeroP.toList)) := Lib.hid ⟨Blk.whole H1.out.1 rfl, Blk.thereAll H1.out.1 _ (Nat.le_refl _), H1.out.2.trans ((Own.setCells _ 0 _).below (Nat.le_refl _) H1.out.2.size)⟩
    go_wp2_with (first | (refine wpList_store_mid rfl 38 (.tmp 2) (.tmp 13) rfl w.heap.size 0 zeroP rfl rfl HX.out.2.1 (infoP2 _ rfl) zeroP_one ?_))
    refine bodyPost_ret (v := .tuple #[.agg zeroP, (.int .i64 4)]) ?_ ?_ ?_
    · exact results_cell_tmp Tryd.results29 _ _ w.heap.size 38 zeroP (0, 0) _ rfl HX.out.1 Tryd.underlying38 rfl (infoP2 _ rfl)
    · rfl
    · (obtain ⟨q1, q2, q3⟩ := HQ.out; rw [q1, q2, q3]; exact ⟨.agg zeroP, rfl, PV.zero _ _ _, HX.out.2.2⟩)
  case inl =>
    have HF := Lib.hid hf
    obtain ⟨m, hmE⟩ : ∃ m, B 0 = m := ⟨_, rfl⟩
    have HM : Hid (B 0 = m ∧ m ≤ 16) := Lib.hid ⟨hmE, by have := hf.2.2.1; omega⟩
    rw [hmE] at hl hno hcc ⊢
    by_cases h3 : m < 1
    · have g1 : (m : Int) < 1 := by omega
      have hd : ¬ DP n B := fun h => by have := h.2.1; omega
      have HQ : Hid (pc n B = 0 ∧ pq n B = 0 ∧ dpE n B = 4) := Lib.hid ⟨if_neg hd, if_neg hd, by unfold dpE; rw [if_neg hd]; rw [if_pos hf]⟩
      clear hd
      clear hf hl hno hcc hcm hmE h3
      have HX : Hid (Blk (w1.setCells w.heap.size 0 zeroP.toList) w.heap.size zeroP 38 ∧ w1.there w.heap.size 0 zeroP.size ∧ Below w.heap.size w (w1.setCells w.heap.size 0 zeroP.toList)) := Lib.hid ⟨Blk.whole H1.out.1 rfl, Blk.thereAll H1.out.1 _ (Nat.le_refl _), H1.out.2.trans ((Own.setCells _ 0 _).below (Nat.le_refl _) H1.out.2.size)⟩
      go_wp2_with (first | (refine wpList_store_mid rfl 38 (.tmp 2) (.tmp 25) rfl w.heap.size 0 zeroP rfl rfl HX.out.2.1 (infoP2 _ rfl) zeroP_one ?_))
      refine bodyPost_ret (v := .tuple #[.agg zeroP, (.int .i64 4)]) ?_ ?_ ?_
      · exact results_cell_tmp Tryd.results29 _ _ w.heap.size 38 zeroP (0, 0) _ rfl HX.out.1 Tryd.underlying38 rfl (infoP2 _ rfl)
      · rfl
      · (obtain ⟨q1, q2, q3⟩ := HQ.out; rw [q1, q2, q3]; exact ⟨.agg zeroP, rfl, PV.zero _ _ _, HX.out.2.2⟩)
    · have g1 : ¬ (m : Int) < 1 := by omega
      have g1' : decide ((m : Int) < 1) = false := decide_eq_false g1
      obtain ⟨b, off, od0, p0, rfl, hc0, hlp0, hB0, hn0, hm0⟩ := hl 0 (by omega)
      obtain ⟨y, hy⟩ : ∃ y, fl B 0 = y := ⟨_, rfl⟩
      rw [hy] at hc0 hlp0 hB0 hn0
      have y9 : (y : Int) ≤ 9223372036854775807 := by unfold maxLen at hm0; omega
      have g2 : (0 : Int) < (m : Int) := by omega
      have g3 : 0 < m := by omega
      have c0 : w1.cell? ⟨b, off, none⟩ = some (.slice od0 y p0) := hc0
      by_cases h1 : y = 2
      case neg =>
        have g8 : ¬ (y : Int) = 2 := by omega
        have hd : ¬ DP n B := fun h => h1 (by have := h.2.2; omega)
        have HQ : Hid (pc n B = 0 ∧ pq n B = 0 ∧ dpE n B = 4) := Lib.hid ⟨if_neg hd, if_neg hd, by unfold dpE; rw [if_neg hd]; rw [if_pos hf]⟩
        clear hd
        clear hf hl hno hcc hcm hmE h3 hc0 hlp0 hB0 hn0 hm0 h1 hy
        have HX : Hid (Blk (w1.setCells w.heap.size 0 zeroP.toList) w.heap.size zeroP 38 ∧ w1.there w.heap.size 0 zeroP.size ∧ Below w.heap.size w (w1.setCells w.heap.size 0 zeroP.toList)) := Lib.hid ⟨Blk.whole H1.out.1 rfl, Blk.thereAll H1.out.1 _ (Nat.le_refl _), H1.out.2.trans ((Own.setCells _ 0 _).below (Nat.le_refl _) H1.out.2.size)⟩
        go_wp2_with (first | (refine wpList_store_mid rfl 38 (.tmp 2) (.tmp 25) rfl w.heap.size 0 zeroP rfl rfl HX.out.2.1 (infoP2 _ rfl) zeroP_one ?_))
        refine bodyPost_ret (v := .tuple #[.agg zeroP, (.int .i64 4)]) ?_ ?_ ?_
        · exact results_cell_tmp Tryd.results29 _ _ w.heap.size 38 zeroP (0, 0) _ rfl HX.out.1 Tryd.underlying38 rfl (infoP2 _ rfl)
        · rfl
        · (obtain ⟨q1, q2, q3⟩ := HQ.out; rw [q1, q2, q3]; exact ⟨.agg zeroP, rfl, PV.zero _ _ _, HX.out.2.2⟩)
      case pos =>
        subst h1
        obtain ⟨hk8, b0, f0, rfl, hx0⟩ := hB0 0 (by omega)
        obtain ⟨hl8, _, _, e9, hx1⟩ := hB0 1 (by omega)
        cases e9
        obtain ⟨k, hk⟩ : ∃ k, dG B 0 0 = k := ⟨_, rfl⟩
        obtain ⟨l, hl9⟩ : ∃ k, dG B 0 1 = k := ⟨_, rfl⟩
        rw [hk] at hk8 hx0
        rw [hl9] at hl8 hx1
        obtain ⟨qx, hqx⟩ : ∃ x, k * 256 = x := ⟨_, rfl⟩
        obtain ⟨s, hs⟩ : ∃ x, qx + l = x := ⟨_, rfl⟩
        have hdp : DP n B := ⟨hf, by rw [hmE]; omega, hy⟩
        obtain ⟨d, hd⟩ : ∃ d, m - 1 = d := ⟨_, rfl⟩
        have HQ : Hid (pc n B = s ∧ pq n B = d ∧ dpE n B = 0) := Lib.hid ⟨by unfold pc; rw [if_pos hdp, hk, hl9]; omega, by unfold pq; rw [if_pos hdp, hmE]; exact hd, if_pos hdp⟩
        have hS1 : EF w b off m (fl B) (dG B) b0 f0 p0 k l w1 := ⟨hl, hc0, hx0, hx1, H1.out.2⟩
        have HMM : Hid (1 ≤ m ∧ m ≤ 16 ∧ m ≤ c ∧ c ≤ maxLen) := Lib.hid ⟨by omega, HM.out.2, hcc, hcm⟩
        have HLL : Hid (∀ i, i < m → fl B i ≤ 1024) := Lib.hid fun i hi => by have h1 := hf.at (i := i) (by rw [hmE]; exact hi); have := hf.2.1; omega
        have k1 : IntKind.i64.wrap (k : Int) = (k : Int) := IntWalk.i64_in _ (by omega)
        have k2 : IntKind.i64.wrap (l : Int) = (l : Int) := IntWalk.i64_in _ (by omega)
        have k3 : (k : Int) * 256 = (qx : Int) := by omega
        have k4 : (256 : Int) * (k : Int) = (qx : Int) := by omega
        have k5 : IntKind.i64.wrap (qx : Int) = (qx : Int) := IntWalk.i64_in _ (by omega)
        have k6 := orI9 hk8 hl8 hqx hs
        have k7 : (qx : Int) + (l : Int) = (s : Int) := by omega
        have k8 : IntKind.i64.wrap (s : Int) = (s : Int) := IntWalk.i64_in _ (by omega)
        have k9 : (k : Int) * 2 ^ 8 = (qx : Int) := k3
        have HDD : Hid (1 + d = m) := Lib.hid (by omega)
        have HS1 := Lib.hid hS1
        clear hf hl hno hcc hcm hmE h3 hc0 hlp0 hB0 hn0 hm0 hy hk8 hl8 hx0 hx1 hk hl9 hS1 hd hqx hs hdp
        have HBW : Hid (b ≠ w.heap.size) := Lib.hid (fun e => by have h := HS1.out.c0; rw [e, Blk.cell H1.out.1] at h; exact zeroP_sl _ _ _ _ h)
        have z1 : (1 : Int) ≤ (m : Int) := by have := HMM.out; omega
        have z2 : 1 ≤ m := by have := HMM.out; omega
        have z3 : (m : Int) ≤ (c : Int) := by have := HMM.out; omega
        have z4 : m ≤ c := by have := HMM.out; omega
        have z5 : (1 : Int) ≤ (c : Int) := by omega
        have z6 : 1 ≤ c := by omega
        have z7 : (c : Int) ≤ 9223372036854775807 := by have := HMM.out.2.2.2; unfold maxLen at this; omega
        by_cases hc3 : c = 1
        · obtain rfl : m = 1 := by omega
          obtain rfl : d = 0 := by have := HDD.out; omega
          subst hc3
          have HR : Hid ((some (⟨b, off, none⟩ : Addr) = none → 0 = 0) ∧ 0 ≤ 0 ∧ 0 ≤ maxLen) := Lib.hid ⟨fun _ => rfl, Nat.le_refl _, Nat.zero_le _⟩
          have HRW : Hid (∀ a, some (⟨b, off, none⟩ : Addr) = some a → 0 < 0 → a.block ≠ w.heap.size) := Lib.hid (fun a _ h => absurd h (Nat.lt_irrefl _))
          go_wp2_with fail
          have hS_0 := HS1.out.later (Below.refl _ w1).drew
          have hB_0 : Blk w1.drew w.heap.size zeroP 38 := Blk.drew H1.out.1
          clear HS1 c0 H1
          refine wp_region_held_drew (S := (EF w b off 1 (fl B) (dG B) b0 f0 p0 k l)) (by kernel_rfl) ?_ (fun hHeld => ?_)
          · (try dsimp only)
            first | assumption
          generalize w1.drew = W0 at *
          refine wpAnyH_take (i := 0) (oi := { dst := some 26, op := Go.Op.move (Go.Operand.tmp 4), type := 34, pos := "ref.go:90", after := #[], guard := none }) (v := ?_) rfl (by kernel_rfl) (by kernel_rfl) (by kernel_rfl) (fun _ _ _ h => h) (Or.inl ⟨by rfl, ?_⟩) (by assumption) ?_
          rotate_left
          · intro wS hSw
            (try dsimp only at hSw)
            go_simp
            (try with_reducible rfl)
          (try simp only [Act.put, List.setIfInBounds_toArray, List.set_cons_zero, List.set_cons_succ])
          refine wpAnyH_take (i := 1) (oi := { dst := some 27, op := Go.Op.indexAddr 34 (Go.Operand.tmp 26) (Go.Operand.const (Go.Value.int Go.IntKind.i64 0)), type := 0, pos := "ref.go:90", after := #[{ on := 0, ground := Go.Ground.data }], guard := none }) (v := ?_) rfl (by kernel_rfl) (by kernel_rfl) (by kernel_rfl) (fun _ _ _ h => h) (Or.inl ⟨by rfl, ?_⟩) (by assumption) ?_
          rotate_left
          · intro wS hSw
            (try dsimp only at hSw)
            go_simp
            (try with_reducible rfl)
          (try simp only [Act.put, List.setIfInBounds_toArray, List.set_cons_zero, List.set_cons_succ])
          refine wpAnyH_take (i := 2) (oi := { dst := some 28, op := Go.Op.load 33 (Go.Operand.tmp 27), type := 33, pos := "ref.go:90", after := #[{ on := 1, ground := Go.Ground.data }], guard := none }) (v := ?_) rfl (by kernel_rfl) (by kernel_rfl) (by kernel_rfl) (fun _ _ _ h => h) (Or.inl ⟨by rfl, ?_⟩) (by assumption) ?_
          rotate_left
          · intro wS hSw
            (have h0 := hSw.c0; go_simp; (try with_reducible rfl))
          (try simp only [Act.put, List.setIfInBounds_toArray, List.set_cons_zero, List.set_cons_succ])
          refine wpAnyH_take (i := 3) (oi := { dst := some 29, op := Go.Op.indexAddr 33 (Go.Operand.tmp 28) (Go.Operand.const (Go.Value.int Go.IntKind.i64 0)), type := 0, pos := "ref.go:90", after := #[{ on := 2, ground := Go.Ground.data }], guard := none }) (v := ?_) rfl (by kernel_rfl) (by kernel_rfl) (by kernel_rfl) (fun _ _ _ h => h) (Or.inl ⟨by rfl, ?_⟩) (by assumption) ?_
          rotate_left
          · intro wS hSw
            (try dsimp only at hSw)
            go_simp
            (try with_reducible rfl)
          (try simp only [Act.put, List.setIfInBounds_toArray, List.set_cons_zero, List.set_cons_succ])
          refine wpAnyH_take (i := 4) (oi := { dst := some 30, op := Go.Op.load 5 (Go.Operand.tmp 29), type := 5, pos := "ref.go:90", after := #[{ on := 3, ground := Go.Ground.data }], guard := none }) (v := ?_) rfl (by kernel_rfl) (by kernel_rfl) (by kernel_rfl) (fun _ _ _ h => h) (Or.inl ⟨by rfl, ?_⟩) (by assumption) ?_
          rotate_left
          · intro wS hSw
            (have h0 := hSw.x0; go_simp; (try with_reducible rfl))
          (try simp only [Act.put, List.setIfInBounds_toArray, List.set_cons_zero, List.set_cons_succ])
          refine wpAnyH_take (i := 5) (oi := { dst := some 31, op := Go.Op.convert 5 3 (Go.Operand.tmp 30), type := 3, pos := "ref.go:90", after := #[{ on := 4, ground := Go.Ground.data }], guard := none }) (v := ?_) rfl (by kernel_rfl) (by kernel_rfl) (by kernel_rfl) (fun _ _ _ h => h) (Or.inl ⟨by rfl, ?_⟩) (by assumption) ?_
          rotate_left
          · intro wS hSw
            (try dsimp only at hSw)
            go_simp
            (try with_reducible rfl)
          (try simp only [Act.put, List.setIfInBounds_toArray, List.set_cons_zero, List.set_cons_succ])
          refine wpAnyH_take (i := 6) (oi := { dst := some 32, op := Go.Op.binOp Go.BinOp.mul 3 (Go.Operand.const (Go.Value.int Go.IntKind.i64 256)) (Go.Operand.tmp 31) 3, type := 3, pos := "ref.go:90", after := #[{ on := 5, ground := Go.Ground.data }], guard := none }) (v := ?_) rfl (by kernel_rfl) (by kernel_rfl) (by kernel_rfl) (fun _ _ _ h => h) (Or.inl ⟨by rfl, ?_⟩) (by assumption) ?_
          rotate_left
          · intro wS hSw
            (try dsimp only at hSw)
            go_simp
            (try with_reducible rfl)
          (try simp only [Act.put, List.setIfInBounds_toArray, List.set_cons_zero, List.set_cons_succ])
          refine wpAnyH_take (i := 7) (oi := { dst := some 33, op := Go.Op.move (Go.Operand.tmp 4), type := 34, pos := "ref.go:90", after := #[], guard := none }) (v := ?_) rfl (by kernel_rfl) (by kernel_rfl) (by kernel_rfl) (fun _ _ _ h => h) (Or.inl ⟨by rfl, ?_⟩) (by assumption) ?_
          rotate_left
          · intro wS hSw
            (try dsimp only at hSw)
            go_simp
            (try with_reducible rfl)
          (try simp only [Act.put, List.setIfInBounds_toArray, List.set_cons_zero, List.set_cons_succ])
          refine wpAnyH_take (i := 8) (oi := { dst := some 34, op := Go.Op.indexAddr 34 (Go.Operand.tmp 33) (Go.Operand.const (Go.Value.int Go.IntKind.i64 0)), type := 0, pos := "ref.go:90", after := #[{ on := 7, ground := Go.Ground.data }], guard := none }) (v := ?_) rfl (by kernel_rfl) (by kernel_rfl) (by kernel_rfl) (fun _ _ _ h => h) (Or.inl ⟨by rfl, ?_⟩) (by assumption) ?_
          rotate_left
          · intro wS hSw
            (try dsimp only at hSw)
            go_simp
            (try with_reducible rfl)
          (try simp only [Act.put, List.setIfInBounds_toArray, List.set_cons_zero, List.set_cons_succ])
          refine wpAnyH_take (i := 9) (oi := { dst := some 35, op := Go.Op.load 33 (Go.Operand.tmp 34), type := 33, pos := "ref.go:90", after := #[{ on := 8, ground := Go.Ground.data }], guard := none }) (v := ?_) rfl (by kernel_rfl) (by kernel_rfl) (by kernel_rfl) (fun _ _ _ h => h) (Or.inl ⟨by rfl, ?_⟩) (by assumption) ?_
          rotate_left
          · intro wS hSw
            (have h0 := hSw.c0; go_simp; (try with_reducible rfl))
          (try simp only [Act.put, List.setIfInBounds_toArray, List.set_cons_zero, List.set_cons_succ])
          refine wpAnyH_take (i := 10) (oi := { dst := some 36, op := Go.Op.indexAddr 33 (Go.Operand.tmp 35) (Go.Operand.const (Go.Value.int Go.IntKind.i64 1)), type := 0, pos := "ref.go:90", after := #[{ on := 9, ground := Go.Ground.data }], guard := none }) (v := ?_) rfl (by kernel_rfl) (by kernel_rfl) (by kernel_rfl) (fun _ _ _ h => h) (Or.inl ⟨by rfl, ?_⟩) (by assumption) ?_
          rotate_left
          · intro wS hSw
            (try dsimp only at hSw)
            go_simp
            (try with_reducible rfl)
          (try simp only [Act.put, List.setIfInBounds_toArray, List.set_cons_zero, List.set_cons_succ])
          refine wpAnyH_take (i := 11) (oi := { dst := some 37, op := Go.Op.load 5 (Go.Operand.tmp 36), type := 5, pos := "ref.go:90", after := #[{ on := 10, ground := Go.Ground.data }], guard := none }) (v := ?_) rfl (by kernel_rfl) (by kernel_rfl) (by kernel_rfl) (fun _ _ _ h => h) (Or.inl ⟨by rfl, ?_⟩) (by assumption) ?_
          rotate_left
          · intro wS hSw
            (have h0 := hSw.x1; go_simp; (try with_reducible rfl))
          (try simp only [Act.put, List.setIfInBounds_toArray, List.set_cons_zero, List.set_cons_succ])
          refine wpAnyH_take (i := 12) (oi := { dst := some 38, op := Go.Op.convert 5 3 (Go.Operand.tmp 37), type := 3, pos := "ref.go:90", after := #[{ on := 11, ground := Go.Ground.data }], guard := none }) (v := ?_) rfl (by kernel_rfl) (by kernel_rfl) (by kernel_rfl) (fun _ _ _ h => h) (Or.inl ⟨by rfl, ?_⟩) (by assumption) ?_
          rotate_left
          · intro wS hSw
            (try dsimp only at hSw)
            go_simp
            (try with_reducible rfl)
          (try simp only [Act.put, List.setIfInBounds_toArray, List.set_cons_zero, List.set_cons_succ])
          refine wpAnyH_take (i := 13) (oi := { dst := some 39, op := Go.Op.binOp Go.BinOp.add 3 (Go.Operand.tmp 32) (Go.Operand.tmp 38) 3, type := 3, pos := "ref.go:90", after := #[{ on := 6, ground := Go.Ground.data }, { on := 12, ground := Go.Ground.data }], guard := none }) (v := ?_) rfl (by kernel_rfl) (by kernel_rfl) (by kernel_rfl) (fun _ _ _ h => h) (Or.inl ⟨by rfl, ?_⟩) (by assumption) ?_
          rotate_left
          · intro wS hSw
            (try dsimp only at hSw)
            go_simp
            (try with_reducible rfl)
          (try simp only [Act.put, List.setIfInBounds_toArray, List.set_cons_zero, List.set_cons_succ])
          refine wpAnyH_take (i := 14) (oi := { dst := some 40, op := Go.Op.move (Go.Operand.tmp 4), type := 34, pos := "ref.go:90", after := #[], guard := none }) (v := ?_) rfl (by kernel_rfl) (by kernel_rfl) (by kernel_rfl) (fun _ _ _ h => h) (Or.inl ⟨by rfl, ?_⟩) (by assumption) ?_
          rotate_left
          · intro wS hSw
            (try dsimp only at hSw)
            go_simp
            (try with_reducible rfl)
          (try simp only [Act.put, List.setIfInBounds_toArray, List.set_cons_zero, List.set_cons_succ])
          refine wpAnyH_take (i := 15) (oi := { dst := some 41, op := Go.Op.slice 34 (Go.Operand.tmp 40) (some (Go.Operand.const (Go.Value.int Go.IntKind.i64 1))) none none, type := 34, pos := "ref.go:90", after := #[{ on := 14, ground := Go.Ground.data }], guard := none }) (v := ?_) rfl (by kernel_rfl) (by kernel_rfl) (by kernel_rfl) (fun _ _ _ h => h) (Or.inl ⟨by rfl, ?_⟩) (by assumption) ?_
          rotate_left
          · intro wS hSw
            (try dsimp only at hSw)
            go_simp
            (try with_reducible rfl)
          (try simp only [Act.put, List.setIfInBounds_toArray, List.set_cons_zero, List.set_cons_succ])
          refine wpAnyH_take (i := 16) (oi := { dst := some 42, op := Go.Op.build 38 #[(0, Go.Operand.tmp 39), (1, Go.Operand.tmp 41)], type := 38, pos := "ref.go:90", after := #[{ on := 13, ground := Go.Ground.data }, { on := 15, ground := Go.Ground.data }], guard := none }) (v := ?_) rfl (by kernel_rfl) (by kernel_rfl) (by kernel_rfl) (fun _ _ _ h => h) (Or.inl ⟨by rfl, ?_⟩) (by assumption) ?_
          rotate_left
          · intro wS hSw
            refine exec_buildM (parts := #[(0, .tmp 39), (1, .tmp 41)]) (ps := #[(0, .int .i64 s), (1, .slice (some ⟨b, off, none⟩) 0 0)]) ?_ ?_ (buildP2 _ _ _ _) <;> first | rfl | (simp; done) | (simp; rfl) | (simp; exact ⟨rfl, rfl⟩)
          (try simp only [Act.put, List.setIfInBounds_toArray, List.set_cons_zero, List.set_cons_succ])
          refine wpAnyH_ready (rs := [17]) (by kernel_rfl) (by simp) ?_
          refine AllReadyH.cons (o := { dst := none, op := Go.Op.store 38 (Go.Operand.tmp 2) (Go.Operand.tmp 42), type := 0, pos := "ref.go:90", after := #[{ on := 16, ground := Go.Ground.data }, { on := 0, ground := Go.Ground.phase }, { on := 1, ground := Go.Ground.phase }, { on := 2, ground := Go.Ground.phase }, { on := 3, ground := Go.Ground.phase }, { on := 4, ground := Go.Ground.phase }, { on := 5, ground := Go.Ground.phase }, { on := 6, ground := Go.Ground.phase }, { on := 7, ground := Go.Ground.phase }, { on := 8, ground := Go.Ground.phase }, { on := 9, ground := Go.Ground.phase }, { on := 10, ground := Go.Ground.phase }, { on := 11, ground := Go.Ground.phase }, { on := 12, ground := Go.Ground.phase }, { on := 13, ground := Go.Ground.phase }, { on := 14, ground := Go.Ground.phase }, { on := 15, ground := Go.Ground.phase }, { on := 16, ground := Go.Ground.phase }], guard := none }) rfl (fun K hK => ?_) AllReadyH.nil
          (refine step_storeM (by rfl) 38 (.tmp 2) (.tmp 42) rfl w.heap.size 0 #[.int .i64 (s : Int), .slice (some ⟨b, off, none⟩) 0 0] rfl rfl (Blk.thereAll hB_0 _ (Nat.le_refl 2)) (infoP2 _ rfl) (one2 _ _ ⟨rfl, rfl⟩) ?_; obtain ⟨v_3, hw_3⟩ : ∃ q, W0.setCells w.heap.size 0 (#[.int .i64 (s : Int), .slice (some ⟨b, off, none⟩) 0 0] : Array Value).toList = q := ⟨_, rfl⟩; rw [hw_3]; have hO_3 : Own w.heap.size W0 v_3 := (by rw [← hw_3]; exact Own.setCells _ 0 _); have hZ_3 := LBs.keep (LBs.zero W0 (some ⟨b, off, none⟩) (fun i => fl B (1 + i)) (fun i => dG B (1 + i))) hO_3 HRW.out hB_0 zeroP_u8; have hS_3 := hS_0.own hO_3 hB_0; have hB_3 : Blk v_3 w.heap.size #[.int .i64 (s : Int), .slice (some ⟨b, off, none⟩) 0 0] 38 := (by rw [← hw_3]; exact Blk.whole hB_0 rfl); clear hw_3 hB_0 hS_0  hO_3; skip)
          refine hK.out _ _ ?_ (fun hHeld => ?_)
          · (try dsimp only)
            first | assumption
          clear hK K
          (try simp only [Act.put, List.setIfInBounds_toArray, List.set_cons_zero, List.set_cons_succ])
          refine wpAnyH_take (i := 18) (oi := { dst := some 3, op := Go.Op.assign (Go.Operand.const (Go.Value.int Go.IntKind.i64 0)), type := 3, pos := "ref.go:90", after := #[{ on := 17, ground := Go.Ground.chain }, { on := 0, ground := Go.Ground.phase }, { on := 1, ground := Go.Ground.phase }, { on := 2, ground := Go.Ground.phase }, { on := 3, ground := Go.Ground.phase }, { on := 4, ground := Go.Ground.phase }, { on := 5, ground := Go.Ground.phase }, { on := 6, ground := Go.Ground.phase }, { on := 7, ground := Go.Ground.phase }, { on := 8, ground := Go.Ground.phase }, { on := 9, ground := Go.Ground.phase }, { on := 10, ground := Go.Ground.phase }, { on := 11, ground := Go.Ground.phase }, { on := 12, ground := Go.Ground.phase }, { on := 13, ground := Go.Ground.phase }, { on := 14, ground := Go.Ground.phase }, { on := 15, ground := Go.Ground.phase }, { on := 16, ground := Go.Ground.phase }, { on := 17, ground := Go.Ground.phase }], guard := none }) (v := ?_) rfl (by kernel_rfl) (by kernel_rfl) (by kernel_rfl) (fun _ _ _ h => h) (Or.inl ⟨by rfl, ?_⟩) (by assumption) ?_
          rotate_left
          · intro wS hSw
            (try dsimp only at hSw)
            go_simp
            (try with_reducible rfl)
          (try simp only [Act.put, List.setIfInBounds_toArray, List.set_cons_zero, List.set_cons_succ])
          refine wpAnyH_done (by kernel_rfl) ?_ _
          have HE := Lib.hid (And.intro hS_3 (And.intro hZ_3 hB_3))
          clear hS_3 hZ_3 hB_3 k1 k2 k3 k4 k5 k6 k7 k8 k9
          go_wp2_with fail
          refine bodyPost_ret (v := .tuple #[.agg #[.int .i64 (s : Int), .slice (some ⟨b, off, none⟩) 0 0], (.int .i64 0)]) ?_ ?_ ?_
          · exact results_cell_tmp Tryd.results29 _ _ w.heap.size 38 #[.int .i64 (s : Int), .slice (some ⟨b, off, none⟩) 0 0] (0, 0) _ rfl HE.out.2.2 Tryd.underlying38 rfl (infoP2 _ rfl)
          · rfl
          · (obtain ⟨q1, q2, q3⟩ := HQ.out; rw [q1, q2, q3]; exact ⟨.agg #[.int .i64 (s : Int), .slice (some ⟨b, off, none⟩) 0 0], rfl, ⟨(some ⟨b, off, none⟩), 0, rfl, HE.out.2.1, (by first | exact HR.out.1 | (intro _; rfl)), HR.out.2.1, HR.out.2.2⟩, HE.out.1.o⟩)
        · obtain ⟨cr, hcr⟩ : ∃ x, c - 1 = x := ⟨_, rfl⟩
          have z8 : (m : Int) - 1 = (d : Int) := by have := HDD.out; omega
          have z9 : m - 1 = d := by have := HDD.out; omega
          have z10 : (c : Int) - 1 = (cr : Int) := by omega
          have HR : Hid ((some (⟨b, off + 1, none⟩ : Addr) = none → d = 0) ∧ d ≤ cr ∧ cr ≤ maxLen) := Lib.hid ⟨(fun e => by cases e), by omega, by have := HMM.out; omega⟩
          have HRW : Hid (∀ a, some (⟨b, off + 1, none⟩ : Addr) = some a → 0 < d → a.block ≠ w.heap.size) := Lib.hid (fun a h _ => by cases h; exact HBW.out)
          go_wp2_with fail
          have hS_0 := HS1.out.later (Below.refl _ w1).drew
          have hB_0 : Blk w1.drew w.heap.size zeroP 38 := Blk.drew H1.out.1
          clear HS1 c0 H1
          refine wp_region_held_drew (S := (EF w b off m (fl B) (dG B) b0 f0 p0 k l)) (by kernel_rfl) ?_ (fun hHeld => ?_)
          · (try dsimp only)
            first | assumption
          generalize w1.drew = W0 at *
          refine wpAnyH_take (i := 0) (oi := { dst := some 26, op := Go.Op.move (Go.Operand.tmp 4), type := 34, pos := "ref.go:90", after := #[], guard := none }) (v := ?_) rfl (by kernel_rfl) (by kernel_rfl) (by kernel_rfl) (fun _ _ _ h => h) (Or.inl ⟨by rfl, ?_⟩) (by assumption) ?_
          rotate_left
          · intro wS hSw
            (try dsimp only at hSw)
            go_simp
            (try with_reducible rfl)
          (try simp only [Act.put, List.setIfInBounds_toArray, List.set_cons_zero, List.set_cons_succ])
          refine wpAnyH_take (i := 1) (oi := { dst := some 27, op := Go.Op.indexAddr 34 (Go.Operand.tmp 26) (Go.Operand.const (Go.Value.int Go.IntKind.i64 0)), type := 0, pos := "ref.go:90", after := #[{ on := 0, ground := Go.Ground.data }], guard := none }) (v := ?_) rfl (by kernel_rfl) (by kernel_rfl) (by kernel_rfl) (fun _ _ _ h => h) (Or.inl ⟨by rfl, ?_⟩) (by assumption) ?_
          rotate_left
          · intro wS hSw
            (try dsimp only at hSw)
            go_simp
            (try with_reducible rfl)
          (try simp only [Act.put, List.setIfInBounds_toArray, List.set_cons_zero, List.set_cons_succ])
          refine wpAnyH_take (i := 2) (oi := { dst := some 28, op := Go.Op.load 33 (Go.Operand.tmp 27), type := 33, pos := "ref.go:90", after := #[{ on := 1, ground := Go.Ground.data }], guard := none }) (v := ?_) rfl (by kernel_rfl) (by kernel_rfl) (by kernel_rfl) (fun _ _ _ h => h) (Or.inl ⟨by rfl, ?_⟩) (by assumption) ?_
          rotate_left
          · intro wS hSw
            (have h0 := hSw.c0; go_simp; (try with_reducible rfl))
          (try simp only [Act.put, List.setIfInBounds_toArray, List.set_cons_zero, List.set_cons_succ])
          refine wpAnyH_take (i := 3) (oi := { dst := some 29, op := Go.Op.indexAddr 33 (Go.Operand.tmp 28) (Go.Operand.const (Go.Value.int Go.IntKind.i64 0)), type := 0, pos := "ref.go:90", after := #[{ on := 2, ground := Go.Ground.data }], guard := none }) (v := ?_) rfl (by kernel_rfl) (by kernel_rfl) (by kernel_rfl) (fun _ _ _ h => h) (Or.inl ⟨by rfl, ?_⟩) (by assumption) ?_
          rotate_left
          · intro wS hSw
            (try dsimp only at hSw)
            go_simp
            (try with_reducible rfl)
          (try simp only [Act.put, List.setIfInBounds_toArray, List.set_cons_zero, List.set_cons_succ])
          refine wpAnyH_take (i := 4) (oi := { dst := some 30, op := Go.Op.load 5 (Go.Operand.tmp 29), type := 5, pos := "ref.go:90", after := #[{ on := 3, ground := Go.Ground.data }], guard := none }) (v := ?_) rfl (by kernel_rfl) (by kernel_rfl) (by kernel_rfl) (fun _ _ _ h => h) (Or.inl ⟨by rfl, ?_⟩) (by assumption) ?_
          rotate_left
          · intro wS hSw
            (have h0 := hSw.x0; go_simp; (try with_reducible rfl))
          (try simp only [Act.put, List.setIfInBounds_toArray, List.set_cons_zero, List.set_cons_succ])
          refine wpAnyH_take (i := 5) (oi := { dst := some 31, op := Go.Op.convert 5 3 (Go.Operand.tmp 30), type := 3, pos := "ref.go:90", after := #[{ on := 4, ground := Go.Ground.data }], guard := none }) (v := ?_) rfl (by kernel_rfl) (by kernel_rfl) (by kernel_rfl) (fun _ _ _ h => h) (Or.inl ⟨by rfl, ?_⟩) (by assumption) ?_
          rotate_left
          · intro wS hSw
            (try dsimp only at hSw)
            go_simp
            (try with_reducible rfl)
          (try simp only [Act.put, List.setIfInBounds_toArray, List.set_cons_zero, List.set_cons_succ])
          refine wpAnyH_take (i := 6) (oi := { dst := some 32, op := Go.Op.binOp Go.BinOp.mul 3 (Go.Operand.const (Go.Value.int Go.IntKind.i64 256)) (Go.Operand.tmp 31) 3, type := 3, pos := "ref.go:90", after := #[{ on := 5, ground := Go.Ground.data }], guard := none }) (v := ?_) rfl (by kernel_rfl) (by kernel_rfl) (by kernel_rfl) (fun _ _ _ h => h) (Or.inl ⟨by rfl, ?_⟩) (by assumption) ?_
          rotate_left
          · intro wS hSw
            (try dsimp only at hSw)
            go_simp
            (try with_reducible rfl)
          (try simp only [Act.put, List.setIfInBounds_toArray, List.set_cons_zero, List.set_cons_succ])
          refine wpAnyH_take (i := 7) (oi := { dst := some 33, op := Go.Op.move (Go.Operand.tmp 4), type := 34, pos := "ref.go:90", after := #[], guard := none }) (v := ?_) rfl (by kernel_rfl) (by kernel_rfl) (by kernel_rfl) (fun _ _ _ h => h) (Or.inl ⟨by rfl, ?_⟩) (by assumption) ?_
          rotate_left
          · intro wS hSw
            (try dsimp only at hSw)
            go_simp
            (try with_reducible rfl)
          (try simp only [Act.put, List.setIfInBounds_toArray, List.set_cons_zero, List.set_cons_succ])
          refine wpAnyH_take (i := 8) (oi := { dst := some 34, op := Go.Op.indexAddr 34 (Go.Operand.tmp 33) (Go.Operand.const (Go.Value.int Go.IntKind.i64 0)), type := 0, pos := "ref.go:90", after := #[{ on := 7, ground := Go.Ground.data }], guard := none }) (v := ?_) rfl (by kernel_rfl) (by kernel_rfl) (by kernel_rfl) (fun _ _ _ h => h) (Or.inl ⟨by rfl, ?_⟩) (by assumption) ?_
          rotate_left
          · intro wS hSw
            (try dsimp only at hSw)
            go_simp
            (try with_reducible rfl)
          (try simp only [Act.put, List.setIfInBounds_toArray, List.set_cons_zero, List.set_cons_succ])
          refine wpAnyH_take (i := 9) (oi := { dst := some 35, op := Go.Op.load 33 (Go.Operand.tmp 34), type := 33, pos := "ref.go:90", after := #[{ on := 8, ground := Go.Ground.data }], guard := none }) (v := ?_) rfl (by kernel_rfl) (by kernel_rfl) (by kernel_rfl) (fun _ _ _ h => h) (Or.inl ⟨by rfl, ?_⟩) (by assumption) ?_
          rotate_left
          · intro wS hSw
            (have h0 := hSw.c0; go_simp; (try with_reducible rfl))
          (try simp only [Act.put, List.setIfInBounds_toArray, List.set_cons_zero, List.set_cons_succ])
          refine wpAnyH_take (i := 10) (oi := { dst := some 36, op := Go.Op.indexAddr 33 (Go.Operand.tmp 35) (Go.Operand.const (Go.Value.int Go.IntKind.i64 1)), type := 0, pos := "ref.go:90", after := #[{ on := 9, ground := Go.Ground.data }], guard := none }) (v := ?_) rfl (by kernel_rfl) (by kernel_rfl) (by kernel_rfl) (fun _ _ _ h => h) (Or.inl ⟨by rfl, ?_⟩) (by assumption) ?_
          rotate_left
          · intro wS hSw
            (try dsimp only at hSw)
            go_simp
            (try with_reducible rfl)
          (try simp only [Act.put, List.setIfInBounds_toArray, List.set_cons_zero, List.set_cons_succ])
          refine wpAnyH_take (i := 11) (oi := { dst := some 37, op := Go.Op.load 5 (Go.Operand.tmp 36), type := 5, pos := "ref.go:90", after := #[{ on := 10, ground := Go.Ground.data }], guard := none }) (v := ?_) rfl (by kernel_rfl) (by kernel_rfl) (by kernel_rfl) (fun _ _ _ h => h) (Or.inl ⟨by rfl, ?_⟩) (by assumption) ?_
          rotate_left
          · intro wS hSw
            (have h0 := hSw.x1; go_simp; (try with_reducible rfl))
          (try simp only [Act.put, List.setIfInBounds_toArray, List.set_cons_zero, List.set_cons_succ])
          refine wpAnyH_take (i := 12) (oi := { dst := some 38, op := Go.Op.convert 5 3 (Go.Operand.tmp 37), type := 3, pos := "ref.go:90", after := #[{ on := 11, ground := Go.Ground.data }], guard := none }) (v := ?_) rfl (by kernel_rfl) (by kernel_rfl) (by kernel_rfl) (fun _ _ _ h => h) (Or.inl ⟨by rfl, ?_⟩) (by assumption) ?_
          rotate_left
          · intro wS hSw
            (try dsimp only at hSw)
            go_simp
            (try with_reducible rfl)
          (try simp only [Act.put, List.setIfInBounds_toArray, List.set_cons_zero, List.set_cons_succ])
          refine wpAnyH_take (i := 13) (oi := { dst := some 39, op := Go.Op.binOp Go.BinOp.add 3 (Go.Operand.tmp 32) (Go.Operand.tmp 38) 3, type := 3, pos := "ref.go:90", after := #[{ on := 6, ground := Go.Ground.data }, { on := 12, ground := Go.Ground.data }], guard := none }) (v := ?_) rfl (by kernel_rfl) (by kernel_rfl) (by kernel_rfl) (fun _ _ _ h => h) (Or.inl ⟨by rfl, ?_⟩) (by assumption) ?_
          rotate_left
          · intro wS hSw
            (try dsimp only at hSw)
            go_simp
            (try with_reducible rfl)
          (try simp only [Act.put, List.setIfInBounds_toArray, List.set_cons_zero, List.set_cons_succ])
          refine wpAnyH_take (i := 14) (oi := { dst := some 40, op := Go.Op.move (Go.Operand.tmp 4), type := 34, pos := "ref.go:90", after := #[], guard := none }) (v := ?_) rfl (by kernel_rfl) (by kernel_rfl) (by kernel_rfl) (fun _ _ _ h => h) (Or.inl ⟨by rfl, ?_⟩) (by assumption) ?_
          rotate_left
          · intro wS hSw
            (try dsimp only at hSw)
            go_simp
            (try with_reducible rfl)
          (try simp only [Act.put, List.setIfInBounds_toArray, List.set_cons_zero, List.set_cons_succ])
          refine wpAnyH_take (i := 15) (oi := { dst := some 41, op := Go.Op.slice 34 (Go.Operand.tmp 40) (some (Go.Operand.const (Go.Value.int Go.IntKind.i64 1))) none none, type := 34, pos := "ref.go:90", after := #[{ on := 14, ground := Go.Ground.data }], guard := none }) (v := ?_) rfl (by kernel_rfl) (by kernel_rfl) (by kernel_rfl) (fun _ _ _ h => h) (Or.inl ⟨by rfl, ?_⟩) (by assumption) ?_
          rotate_left
          · intro wS hSw
            (try dsimp only at hSw)
            go_simp
            (try with_reducible rfl)
          (try simp only [Act.put, List.setIfInBounds_toArray, List.set_cons_zero, List.set_cons_succ])
          refine wpAnyH_take (i := 16) (oi := { dst := some 42, op := Go.Op.build 38 #[(0, Go.Operand.tmp 39), (1, Go.Operand.tmp 41)], type := 38, pos := "ref.go:90", after := #[{ on := 13, ground := Go.Ground.data }, { on := 15, ground := Go.Ground.data }], guard := none }) (v := ?_) rfl (by kernel_rfl) (by kernel_rfl) (by kernel_rfl) (fun _ _ _ h => h) (Or.inl ⟨by rfl, ?_⟩) (by assumption) ?_
          rotate_left
          · intro wS hSw
            refine exec_buildM (parts := #[(0, .tmp 39), (1, .tmp 41)]) (ps := #[(0, .int .i64 s), (1, .slice (some ⟨b, off + 1, none⟩) d cr)]) ?_ ?_ (buildP2 _ _ _ _) <;> first | rfl | (simp; done) | (simp; rfl) | (simp; exact ⟨rfl, rfl⟩)
          (try simp only [Act.put, List.setIfInBounds_toArray, List.set_cons_zero, List.set_cons_succ])
          refine wpAnyH_ready (rs := [17]) (by kernel_rfl) (by simp) ?_
          refine AllReadyH.cons (o := { dst := none, op := Go.Op.store 38 (Go.Operand.tmp 2) (Go.Operand.tmp 42), type := 0, pos := "ref.go:90", after := #[{ on := 16, ground := Go.Ground.data }, { on := 0, ground := Go.Ground.phase }, { on := 1, ground := Go.Ground.phase }, { on := 2, ground := Go.Ground.phase }, { on := 3, ground := Go.Ground.phase }, { on := 4, ground := Go.Ground.phase }, { on := 5, ground := Go.Ground.phase }, { on := 6, ground := Go.Ground.phase }, { on := 7, ground := Go.Ground.phase }, { on := 8, ground := Go.Ground.phase }, { on := 9, ground := Go.Ground.phase }, { on := 10, ground := Go.Ground.phase }, { on := 11, ground := Go.Ground.phase }, { on := 12, ground := Go.Ground.phase }, { on := 13, ground := Go.Ground.phase }, { on := 14, ground := Go.Ground.phase }, { on := 15, ground := Go.Ground.phase }, { on := 16, ground := Go.Ground.phase }], guard := none }) rfl (fun K hK => ?_) AllReadyH.nil
          (refine step_storeM (by rfl) 38 (.tmp 2) (.tmp 42) rfl w.heap.size 0 #[.int .i64 (s : Int), .slice (some ⟨b, off + 1, none⟩) d cr] rfl rfl (Blk.thereAll hB_0 _ (Nat.le_refl 2)) (infoP2 _ rfl) (one2 _ _ ⟨rfl, rfl⟩) ?_; obtain ⟨v_4, hw_4⟩ : ∃ q, W0.setCells w.heap.size 0 (#[.int .i64 (s : Int), .slice (some ⟨b, off + 1, none⟩) d cr] : Array Value).toList = q := ⟨_, rfl⟩; rw [hw_4]; have hO_4 : Own w.heap.size W0 v_4 := (by rw [← hw_4]; exact Own.setCells _ 0 _); have hZ_4 := LBs.keep (LBs.hi hS_0.l HDD.out) hO_4 HRW.out hB_0 zeroP_u8; have hS_4 := hS_0.own hO_4 hB_0; have hB_4 : Blk v_4 w.heap.size #[.int .i64 (s : Int), .slice (some ⟨b, off + 1, none⟩) d cr] 38 := (by rw [← hw_4]; exact Blk.whole hB_0 rfl); clear hw_4 hB_0 hS_0  hO_4; skip)
          refine hK.out _ _ ?_ (fun hHeld => ?_)
          · (try dsimp only)
            first | assumption
          clear hK K
          (try simp only [Act.put, List.setIfInBounds_toArray, List.set_cons_zero, List.set_cons_succ])
          refine wpAnyH_take (i := 18) (oi := { dst := some 3, op := Go.Op.assign (Go.Operand.const (Go.Value.int Go.IntKind.i64 0)), type := 3, pos := "ref.go:90", after := #[{ on := 17, ground := Go.Ground.chain }, { on := 0, ground := Go.Ground.phase }, { on := 1, ground := Go.Ground.phase }, { on := 2, ground := Go.Ground.phase }, { on := 3, ground := Go.Ground.phase }, { on := 4, ground := Go.Ground.phase }, { on := 5, ground := Go.Ground.phase }, { on := 6, ground := Go.Ground.phase }, { on := 7, ground := Go.Ground.phase }, { on := 8, ground := Go.Ground.phase }, { on := 9, ground := Go.Ground.phase }, { on := 10, ground := Go.Ground.phase }, { on := 11, ground := Go.Ground.phase }, { on := 12, ground := Go.Ground.phase }, { on := 13, ground := Go.Ground.phase }, { on := 14, ground := Go.Ground.phase }, { on := 15, ground := Go.Ground.phase }, { on := 16, ground := Go.Ground.phase }, { on := 17, ground := Go.Ground.phase }], guard := none }) (v := ?_) rfl (by kernel_rfl) (by kernel_rfl) (by kernel_rfl) (fun _ _ _ h => h) (Or.inl ⟨by rfl, ?_⟩) (by assumption) ?_
          rotate_left
          · intro wS hSw
            (try dsimp only at hSw)
            go_simp
            (try with_reducible rfl)
          (try simp only [Act.put, List.setIfInBounds_toArray, List.set_cons_zero, List.set_cons_succ])
          refine wpAnyH_done (by kernel_rfl) ?_ _
          have HE := Lib.hid (And.intro hS_4 (And.intro hZ_4 hB_4))
          clear hS_4 hZ_4 hB_4 k1 k2 k3 k4 k5 k6 k7 k8 k9
          go_wp2_with fail
          refine bodyPost_ret (v := .tuple #[.agg #[.int .i64 (s : Int), .slice (some ⟨b, off + 1, none⟩) d cr], (.int .i64 0)]) ?_ ?_ ?_
          · exact results_cell_tmp Tryd.results29 _ _ w.heap.size 38 #[.int .i64 (s : Int), .slice (some ⟨b, off + 1, none⟩) d cr] (0, 0) _ rfl HE.out.2.2 Tryd.underlying38 rfl (infoP2 _ rfl)
          · rfl
          · (obtain ⟨q1, q2, q3⟩ := HQ.out; rw [q1, q2, q3]; exact ⟨.agg #[.int .i64 (s : Int), .slice (some ⟨b, off + 1, none⟩) d cr], rfl, ⟨(some ⟨b, off + 1, none⟩), cr, rfl, HE.out.2.1, (by first | exact HR.out.1 | (intro _; rfl)), HR.out.2.1, HR.out.2.2⟩, HE.out.1.o⟩)
end Go.Proofs.YtmabhjifldafaaaDoor
