/- A plan that may be, and as many draws as it needs: the law's own laid. -/
import Derived.Test.YtmhofofidmbgfaaDoorSp6
namespace Go.Proofs.YtmhofofidmbgfaaDoor
set_option linter.unusedVariables false
set_option linter.unusedSimpArgs false
open Go.RowKit

theorem results_tct {P : Program} {fn : Func} {p q r : Tmp} {ty : TypeId} (h : fn.results = #[.tmp p, .cell q ty, .tmp r]) (tmps : Array Value) (w : World) (g : Nat) (t : TypeId) (cs : Array Value) (fr : Nat × Nat) (d : TypeDesc)
    (hp : tmps.getD q undef = .pointer (some ⟨g, 0, none⟩)) (hg : w.heap[g]? = some (.cells cs t fr))
    (hu : P.underlying ty = some d) (hd : (match d with | .struct _ | .array _ _ => true | _ => false) = true) (hi : (P.info? ty).map (·.size) = some cs.size) :
    (results fn tmps).run P w = .ok (.tuple #[tmps.getD p undef, .agg cs, tmps.getD r undef]) w := by
  have hp' : tmps[q]?.getD undef = .pointer (some ⟨g, 0, none⟩) := by simpa using hp
  simp [results, h, hp', asAddr, run_loadVar_row w g t ty cs fr d hg hu hd hi]
theorem one_plan (a b c : Int) : (#[Value.int .i64 a, Value.int .i64 b, Value.int .u32 c] : Array Value).all (·.oneCell') = true := all_oneCell_toArray fun v hv => by
  simp at hv
  rcases hv with rfl | rfl | rfl <;> rfl
theorem build_plan (a b c : Int) (w : World) : (Instr.build 28 #[(0, .int .i64 a), (1, .int .i64 b), (2, .int .u32 c)]).run Tryd.prog w = .ok (.agg #[.int .i64 a, .int .i64 b, .int .u32 c]) w := run_build w 28 _ _ (by kernel_rfl)
theorem zpl_run (w : World) : (zeroValue 28).run Tryd.prog w = .ok (.agg #[.int .i64 0, .int .i64 0, .int .u32 0]) w := by kernel_rfl
/-- What laid gives: a secret of at most 40 bytes, a plan, its draws. -/
structure Laid3 (w : World) (sb so L cs k N db : Nat) (s d : Nat → Nat) (w' : World) : Prop where
  sec : Bytes w' (some ⟨sb, so, none⟩) L s
  dr : Bytes w' (some ⟨db, 0, none⟩) (L * k) d
  new : w.heap.size ≤ db
  low : sb ≠ db
  l1 : 1 ≤ L
  l40 : L ≤ 40
  k1 : 1 ≤ k
  k6 : k ≤ 6
  nk : k + 1 ≤ N
  n15 : N ≤ 15
  lc : L ≤ cs
  cm : cs ≤ maxLen
  bel : Below w.heap.size w w'
def LaidR (w : World) (e : Ending) (w' : World) : Prop := ∃ (sb so L cs k N db : Nat) (s d : Nat → Nat), e = .returned (.tuple #[.slice (some ⟨sb, so, none⟩) L cs, .agg #[.int .i64 ((k + 1 : Nat) : Int), .int .i64 (N : Int), .int .u32 5], .slice (some ⟨db, 0, none⟩) (L * k) (L * k)]) ∧ Laid3 w sb so L cs k N db s d w'
/-- A number as one without a sign, its rest. -/
theorem u64_rest (K : Int) : ∃ u : Nat, IntKind.u64.wrap K = (u : Int) := ⟨(IntKind.u64.wrap K).toNat, by
  have : 0 ≤ IntKind.u64.wrap K := by simp [IntKind.wrap, IntKind.bits, IntKind.signed]; omega
  omega⟩

set_option maxRecDepth 100000 in
set_option maxHeartbeats 8000000 in
theorem laid_any (os od : Option Addr) (ns cs0 nd cd : Nat) (K N0 : Int) (s0 dd : Nat → Nat) (w : World) (hs : Bytes w os ns s0) (hd : Bytes w od nd dd) (hno : os = none → ns = 0) (hnc : ns ≤ cs0) (hcm : cs0 ≤ maxLen) (hnd : nd ≤ maxLen) :
    Calls Tryd.prog 24 #[.agg #[.slice os ns cs0, .int .i64 K, .int .i64 N0, .slice od nd cd]] w (LaidR w) := by
  obtain ⟨u1, hu1⟩ := u64_rest K
  obtain ⟨u2, hu2⟩ := u64_rest N0
  obtain ⟨r6, hr6⟩ : ∃ x, u1 % 6 = x := ⟨_, rfl⟩
  obtain ⟨r9, hr9⟩ : ∃ x, u2 % 9 = x := ⟨_, rfl⟩
  have hr6b : r6 < 6 := by omega
  have hr9b : r9 < 9 := by omega
  have ht6 : ((u1 : Nat) : Int).tmod 6 = (r6 : Int) := by rw [Int.tmod_eq_emod_of_nonneg (by omega)]; omega
  have ht9 : ((u2 : Nat) : Int).tmod 9 = (r9 : Int) := by rw [Int.tmod_eq_emod_of_nonneg (by omega)]; omega
  have hm6 : ((u1 : Nat) : Int) % 6 = (r6 : Int) := by omega
  have hm9 : ((u2 : Nat) : Int) % 9 = (r9 : Int) := by omega
  obtain ⟨k, hk⟩ : ∃ x, r6 + 1 = x := ⟨_, rfl⟩
  obtain ⟨k1, hk1⟩ : ∃ x, k + 1 = x := ⟨_, rfl⟩
  obtain ⟨N, hN⟩ : ∃ x, k1 + r9 = x := ⟨_, rfl⟩
  have a1 : (2 : Int) + (r6 : Int) = (k1 : Int) := by omega
  have a2 : (k1 : Int) + (r9 : Int) = (N : Int) := by omega
  have a3 : (k1 : Int) - 1 = (k : Int) := by omega
  have w1 : IntKind.i64.wrap (r6 : Int) = (r6 : Int) := IntWalk.i64_in _ (by omega)
  have w2 : IntKind.i64.wrap (r9 : Int) = (r9 : Int) := IntWalk.i64_in _ (by omega)
  have w3 : IntKind.i64.wrap (k1 : Int) = (k1 : Int) := IntWalk.i64_in _ (by omega)
  have w4 : IntKind.i64.wrap (N : Int) = (N : Int) := IntWalk.i64_in _ (by omega)
  have HKN := Lib.hid (show 1 ≤ k ∧ k ≤ 6 ∧ k + 1 = k1 ∧ k + 1 ≤ N ∧ N ≤ 15 by omega)
  have hkb : k ≤ 6 := by omega
  have hz := zpl_run
  have HDD := Lib.hid hd
  have HS0 := Lib.hid hs
  obtain ⟨b3, hb3⟩ : ∃ x, w.heap.size + 1 = x := ⟨_, rfl⟩
  obtain ⟨b6, hb6⟩ : ∃ x, b3 + 1 = x := ⟨_, rfl⟩
  obtain ⟨wM0, hwM0⟩ : ∃ x, ((w.alloc (.cells #[.slice os ns cs0, .int .i64 K, .int .i64 N0, .slice od nd cd] 57)).alloc (.cells #[.int .i64 0, .int .i64 0, .int .u32 0] 28)).alloc (.cells #[.int .i64 (k1 : Int), .int .i64 (N : Int), .int .u32 5] 28) = x := ⟨_, rfl⟩
  have HM0 : Hid (Blk wM0 w.heap.size #[.slice os ns cs0, .int .i64 K, .int .i64 N0, .slice od nd cd] 57 ∧ Blk wM0 b3 #[.int .i64 0, .int .i64 0, .int .u32 0] 28 ∧ Blk wM0 b6 [.int .i64 (k1 : Int), .int .i64 (N : Int), .int .u32 5].toArray 28 ∧ True ∧ Below w.heap.size w wM0) := Lib.hid (by
    rw [← hwM0, ← hb6, ← hb3]
    exact ⟨((Blk.new _ _ _).alloc _).alloc _, by simpa using (Blk.new (w.alloc (.cells #[.slice os ns cs0, .int .i64 K, .int .i64 N0, .slice od nd cd] 57)) #[.int .i64 0, .int .i64 0, .int .u32 0] 28).alloc (.cells #[.int .i64 (k1 : Int), .int .i64 (N : Int), .int .u32 5] 28), by simpa using Blk.new ((w.alloc (.cells #[.slice os ns cs0, .int .i64 K, .int .i64 N0, .slice od nd cd] 57)).alloc (.cells #[.int .i64 0, .int .i64 0, .int .u32 0] 28)) #[.int .i64 (k1 : Int), .int .i64 (N : Int), .int .u32 5] 28, trivial, (((Below.refl _ _).alloc (Nat.le_refl _) _).alloc (by simp) _).alloc (by simp; omega) _⟩)
  have HNB0 : Hid (w.heap.size ≤ b3 ∧ b6 ≠ b3 ∧ b3 < b6 ∧ b6 < wM0.heap.size) := Lib.hid ⟨by omega, by omega, by omega, Blk.lt HM0.out.2.2.1⟩
  clear hr6 hr9 hk hk1 hN hs hd hr6b hr9b
  by_cases h0 : ns = 0
  · subst h0
    have c0 : wM0.cell? ⟨w.heap.size, 0, none⟩ = some (.slice os 0 cs0) := by rw [Blk.cell HM0.out.1]; rfl
    obtain ⟨sb, hsb⟩ : ∃ x, wM0.heap.size = x := ⟨_, rfl⟩
    obtain ⟨wM, hwM⟩ : ∃ x, wM0.alloc (.cells #[.int .u8 9] 5) = x := ⟨_, rfl⟩
    have hbA : Below wM0.heap.size wM0 wM := by rw [← hwM]; exact (Below.refl _ _).alloc (Nat.le_refl _) _
    have HMB : Hid (Blk wM w.heap.size #[.slice os 0 cs0, .int .i64 K, .int .i64 N0, .slice od nd cd] 57 ∧ Blk wM b3 #[.int .i64 0, .int .i64 0, .int .u32 0] 28 ∧ Blk wM b6 [.int .i64 (k1 : Int), .int .i64 (N : Int), .int .u32 5].toArray 28 ∧ True ∧ Below w.heap.size w wM) := Lib.hid
      ⟨Blk.below HM0.out.1 hbA (Blk.lt HM0.out.1), Blk.below HM0.out.2.1 hbA (Blk.lt HM0.out.2.1), Blk.below HM0.out.2.2.1 hbA (Blk.lt HM0.out.2.2.1), trivial, HM0.out.2.2.2.2.trans (hbA.mono HM0.out.2.2.2.2.size)⟩
    have HSEC : Hid (Bytes wM (some ⟨sb, 0, none⟩) 1 (fun _ => 9)) := Lib.hid (by rw [← hwM, ← hsb]; exact ob1 (y := 9) rfl (by decide))
    have HSB : Hid (sb < wM.heap.size) := Lib.hid (by rw [← hwM, ← hsb]; simp)
    have HNB : Hid (w.heap.size ≤ b3 ∧ b6 ≠ b3 ∧ sb ≠ b3 ∧ b3 < wM.heap.size) := Lib.hid (by have := HNB0.out; have := hbA.size; omega)
    have w5 : IntKind.i64.wrap (k : Int) = (k : Int) := IntWalk.i64_in _ (by omega)
    have HNU : Hid (k1 = k + 1 ∧ True ∧ 1 ≤ 1 ∧ 1 ≤ 40 ∧ 1 ≤ k ∧ k ≤ 6 ∧ k + 1 ≤ N ∧ N ≤ 15 ∧ 1 ≤ 1 ∧ 1 ≤ maxLen) := Lib.hid (by
      have h9 := HKN.out
      refine ⟨by omega, trivial, by omega, by omega, by omega, by omega, by omega, by omega, by omega, by unfold maxLen; omega⟩)
    clear hbA hcm hnd hnc
    go_enter Tryd.func24, Tryd.ntmps24
    have hM9 : k < 1000000000000 := by omega
    go_wp2_with (refine wpList_mk rfl (.tmp 40) (.tmp 40) rfl k rfl rfl hM9 ?_)
    have hR0 := row_new wM k (fun _ => 0)
    have hb0 : Below wM.heap.size wM (wM.alloc (.cells (rowC k (fun _ => 0)).toArray 5)) := (Below.refl _ _).alloc (Nat.le_refl _) _
    obtain ⟨db, hdb⟩ : ∃ x, wM.heap.size = x := ⟨_, rfl⟩
    obtain ⟨wN, hwN⟩ : ∃ x, wM.alloc (.cells (rowC k (fun _ => 0)).toArray 5) = x := ⟨_, rfl⟩
    rw [hwN, hdb] at hR0
    rw [hwN] at hb0 ⊢
    rw [hdb]
    have HDB := Lib.hid hdb
    clear hwN hdb hM9
    go_wp2_with fail
    go_loopw [9] (fun x wr => ∃ i F, i ≤ k ∧ x = .int .i64 (i : Nat) ∧ Row wr db k F ∧ (∀ j, j < k → F j < 256) ∧ Below wM.heap.size wM wr) (fun x _ => k - (intOf x).toNat)
    case atStart => exact ⟨0, fun _ => 0, Nat.zero_le _, rfl, hR0, fun _ _ => (by decide : 0 < 256), hb0⟩
    case round =>
      obtain ⟨i, F, hi, rfl, hR, hF, hb⟩ := hrel
      have HR := Lib.hid hR
      have HF := Lib.hid hF
      have HB := Lib.hid hb
      clear hR0 hb0 hR hF hb
      have hc1 : wr.cell? ⟨w.heap.size, 3, none⟩ = some (.slice od nd cd) := by rw [Blk.cell (Blk.below HMB.out.1 HB.out (Blk.lt HMB.out.1))]; rfl
      by_cases hgo : i < k ∧ i < nd
      · obtain ⟨h1, h2⟩ := hgo
        obtain ⟨hd8, b9, o9, rfl, hc⟩ := (HDD.out.later (HMB.out.2.2.2.2.trans (HB.out.mono HMB.out.2.2.2.2.size))) i h2
        have hi0 : (0 : Int) ≤ (i : Int) := by omega
        have hi1 : (i : Int) < (k : Int) := by omega
        have hi2 : (i : Int) < (nd : Int) := by omega
        have hx0 := HR.out.cell h1
        have hf0 := Blk.free HR.out i
        have HR2 := Lib.hid (HR.out.set i (dd i))
        have HB2 := Lib.hid (HB.out.setCell (p := ⟨db, i, none⟩) (Nat.le_of_eq HDB.out) (.int .u8 (dd i : Nat)))
        have HF2 : Hid (∀ j, j < k → upd F i (dd i) j < 256) := Lib.hid fun j hj => by
          unfold upd; split
          · exact hd8
          · exact HF.out j hj
        go_wp2_with fail
        go_roundw
        case rel => exact ⟨i + 1, _, by omega, by go_num, HR2.out, HF2.out, HB2.out⟩
        case measure => simp [intOf]; omega
      · have HP6 := Lib.hid (Blk.below HMB.out.2.2.1 HB.out (Blk.lt HMB.out.2.2.1))
        have HP3 := Blk.below HMB.out.2.1 HB.out (Blk.lt HMB.out.2.1)
        have HTH : Hid (wr.drew.there b3 0 3) := Lib.hid (HP3.drew.there (by decide))
        have hO3 := Own.setCells (b := b3) [.int .i64 (k1 : Int), .int .i64 (N : Int), .int .u32 5] 0 wr.drew
        have HXW : Hid (Blk (wr.drew.setCells b3 0 [.int .i64 (k1 : Int), .int .i64 (N : Int), .int .u32 5]) b3 #[.int .i64 (k1 : Int), .int .i64 (N : Int), .int .u32 5] 28 ∧ Blk (wr.drew.setCells b3 0 [.int .i64 (k1 : Int), .int .i64 (N : Int), .int .u32 5]) b6 [.int .i64 (k1 : Int), .int .i64 (N : Int), .int .u32 5].toArray 28) := Lib.hid ⟨HP3.drew.whole3 rfl _ _ _, hO3.blk HP6.out.drew HNB.out.2.1⟩
        have HQ : Hid (LaidR w (.returned (.tuple #[.slice (some ⟨sb, 0, none⟩) 1 1, .agg #[.int .i64 (k1 : Int), .int .i64 (N : Int), .int .u32 5], .slice (some ⟨db, 0, none⟩) k k])) (wr.drew.setCells b3 0 [.int .i64 (k1 : Int), .int .i64 (N : Int), .int .u32 5])) := Lib.hid ⟨sb, 0, 1, 1, k, N, db, (fun _ => 9), F, by rw [HNU.out.1, Nat.one_mul], ((HSEC.out.later HB.out).own hO3.undrew (Apart.of_ne HNB.out.2.2.1)), by rw [Nat.one_mul]; exact ((HR.out.own hO3.undrew (by have := HNB.out; have := HDB.out; omega)).bytes HF.out), by have := HNB.out; have := HDB.out; have := HMB.out.2.2.2.2.size; omega, by have := HSB.out; have := HDB.out; omega, HNU.out.2.2.1, HNU.out.2.2.2.1, HNU.out.2.2.2.2.1, HNU.out.2.2.2.2.2.1, HNU.out.2.2.2.2.2.2.1, HNU.out.2.2.2.2.2.2.2.1, HNU.out.2.2.2.2.2.2.2.2.1, HNU.out.2.2.2.2.2.2.2.2.2, (HMB.out.2.2.2.2.trans (HB.out.mono HMB.out.2.2.2.2.size)).trans (hO3.undrew.below HNB.out.1 (Nat.le_trans HMB.out.2.2.2.2.size HB.out.size))⟩
        have hP_0 : Blk wr.drew b6 [.int .i64 (k1 : Int), .int .i64 (N : Int), .int .u32 5].toArray 28 := HP6.out.drew
        have HPW : Hid (∀ w7, Blk w7 b6 [.int .i64 (k1 : Int), .int .i64 (N : Int), .int .u32 5].toArray 28 → w7.rangeAt b6 0 [.int .i64 (k1 : Int), .int .i64 (N : Int), .int .u32 5]) := Lib.hid fun _ h => h.range0
        clear hO3 HP3
        by_cases h1 : i < k
        · have h2 : ¬ i < nd := fun h2 => hgo ⟨h1, h2⟩
          have d1 : (i : Int) < (k : Int) := by omega
          have d2 : decide ((i : Int) < (nd : Int)) = false := decide_eq_false (by omega)
          clear hgo
          go_wp2_with fail
          refine wp_region_held_drew (S := (fun w7 => Blk w7 b6 [.int .i64 (k1 : Int), .int .i64 (N : Int), .int .u32 5].toArray 28)) (by kernel_rfl) ?_ (fun hHeld => ?_)
          · (try dsimp only)
            first | assumption | exact hP_0 | exact hP_1
          generalize wr.drew = W5 at *
          refine wpAnyH_take (i := 0) (oi := { dst := some 63, op := Go.Op.move (Go.Operand.tmp 7), type := 22, pos := "law.go:119", after := #[], guard := none }) (v := ?_) rfl (by kernel_rfl) (by kernel_rfl) (by kernel_rfl) (fun _ _ _ h => h) (Or.inl ⟨by rfl, ?_⟩) (by assumption) ?_
          rotate_left
          · intro wS hSw
            (try dsimp only at hSw)
            go_simp
            (try with_reducible rfl)
          (try simp only [Act.put, List.setIfInBounds_toArray, List.set_cons_zero, List.set_cons_succ])
          refine wpAnyH_take (i := 1) (oi := { dst := some 64, op := Go.Op.load 28 (Go.Operand.tmp 6), type := 28, pos := "law.go:119", after := #[{ on := 3, ground := Go.Ground.gcOnly Go.Departure.lateStores }], guard := none }) (v := ?_) rfl (by kernel_rfl) (by kernel_rfl) (by kernel_rfl) (fun _ _ _ h => h) (Or.inl ⟨by rfl, ?_⟩) (by assumption) ?_
          rotate_left
          · intro wS hSw
            refine exec_loadM (x := .tmp 6) (cs := [.int .i64 (k1 : Int), .int .i64 (N : Int), .int .u32 5]) ?_ ?_ (HPW.out _ hSw) Tryd.underlying28 rfl info_plan3 <;> rfl
          (try simp only [Act.put, List.setIfInBounds_toArray, List.set_cons_zero, List.set_cons_succ])
          refine wpAnyH_take (i := 2) (oi := { dst := some 65, op := Go.Op.move (Go.Operand.tmp 8), type := 22, pos := "law.go:119", after := #[{ on := 4, ground := Go.Ground.gcOnly Go.Departure.lateStores }], guard := none }) (v := ?_) rfl (by kernel_rfl) (by kernel_rfl) (by kernel_rfl) (fun _ _ _ h => h) (Or.inl ⟨by rfl, ?_⟩) (by assumption) ?_
          rotate_left
          · intro wS hSw
            (try dsimp only at hSw)
            go_simp
            (try with_reducible rfl)
          (try simp only [Act.put, List.setIfInBounds_toArray, List.set_cons_zero, List.set_cons_succ])
          refine wpAnyH_take (i := 3) (oi := { dst := some 2, op := Go.Op.assign (Go.Operand.tmp 63), type := 22, pos := "law.go:119", after := #[{ on := 0, ground := Go.Ground.data }, { on := 0, ground := Go.Ground.phase }, { on := 1, ground := Go.Ground.textOnly Go.Departure.lateStores }, { on := 2, ground := Go.Ground.textOnly Go.Departure.lateStores }], guard := none }) (v := ?_) rfl (by kernel_rfl) (by kernel_rfl) (by kernel_rfl) (fun _ _ _ h => h) (Or.inl ⟨by rfl, ?_⟩) (by assumption) ?_
          rotate_left
          · intro wS hSw
            (try dsimp only at hSw)
            go_simp
            (try with_reducible rfl)
          (try simp only [Act.put, List.setIfInBounds_toArray, List.set_cons_zero, List.set_cons_succ])
          refine wpAnyH_ready (rs := [4]) (by kernel_rfl) (by simp) ?_
          refine AllReadyH.cons (o := { dst := none, op := Go.Op.store 28 (Go.Operand.tmp 3) (Go.Operand.tmp 64), type := 0, pos := "law.go:119", after := #[{ on := 1, ground := Go.Ground.data }, { on := 3, ground := Go.Ground.chain }, { on := 0, ground := Go.Ground.phase }, { on := 1, ground := Go.Ground.phase }, { on := 2, ground := Go.Ground.textOnly Go.Departure.lateStores }, { on := 3, ground := Go.Ground.phase }], guard := none }) rfl (fun K hK => ?_) AllReadyH.nil
          (refine step_storeM rfl 28 (.tmp 3) (.tmp 64) rfl b3 0 #[.int .i64 (k1 : Int), .int .i64 (N : Int), .int .u32 5] rfl rfl HTH.out info_plan3 (one_plan _ _ _) ?_; have hP_1 := HXW.out.2; skip)
          refine hK.out _ _ ?_ (fun hHeld => ?_)
          · (try dsimp only)
            first | assumption | exact hP_0 | exact hP_1
          clear hK K
          (try simp only [Act.put, List.setIfInBounds_toArray, List.set_cons_zero, List.set_cons_succ])
          refine wpAnyH_take (i := 5) (oi := { dst := some 4, op := Go.Op.assign (Go.Operand.tmp 65), type := 22, pos := "law.go:119", after := #[{ on := 2, ground := Go.Ground.data }, { on := 4, ground := Go.Ground.chain }, { on := 0, ground := Go.Ground.phase }, { on := 1, ground := Go.Ground.phase }, { on := 2, ground := Go.Ground.phase }, { on := 3, ground := Go.Ground.phase }, { on := 4, ground := Go.Ground.phase }], guard := none }) (v := ?_) rfl (by kernel_rfl) (by kernel_rfl) (by kernel_rfl) (fun _ _ _ h => h) (Or.inl ⟨by rfl, ?_⟩) (by assumption) ?_
          rotate_left
          · intro wS hSw
            (try dsimp only at hSw)
            go_simp
            (try with_reducible rfl)
          (try simp only [Act.put, List.setIfInBounds_toArray, List.set_cons_zero, List.set_cons_succ])
          refine wpAnyH_done (by kernel_rfl) ?_ _
          clear hP_0 hP_1
          go_wp2_with fail
          refine bodyPost_ret (v := .tuple #[.slice (some ⟨sb, 0, none⟩) 1 1, .agg #[.int .i64 (k1 : Int), .int .i64 (N : Int), .int .u32 5], .slice (some ⟨db, 0, none⟩) k k]) ?_ rfl HQ.out
          exact results_tct Tryd.results24 _ _ b3 28 #[.int .i64 (k1 : Int), .int .i64 (N : Int), .int .u32 5] (0, 0) _ rfl HXW.out.1 Tryd.underlying28 rfl info_plan3
        · have d1 : decide ((i : Int) < (k : Int)) = false := decide_eq_false (by omega)
          clear hgo
          go_wp2_with fail
          refine wp_region_held_drew (S := (fun w7 => Blk w7 b6 [.int .i64 (k1 : Int), .int .i64 (N : Int), .int .u32 5].toArray 28)) (by kernel_rfl) ?_ (fun hHeld => ?_)
          · (try dsimp only)
            first | assumption | exact hP_0 | exact hP_1
          generalize wr.drew = W5 at *
          refine wpAnyH_take (i := 0) (oi := { dst := some 63, op := Go.Op.move (Go.Operand.tmp 7), type := 22, pos := "law.go:119", after := #[], guard := none }) (v := ?_) rfl (by kernel_rfl) (by kernel_rfl) (by kernel_rfl) (fun _ _ _ h => h) (Or.inl ⟨by rfl, ?_⟩) (by assumption) ?_
          rotate_left
          · intro wS hSw
            (try dsimp only at hSw)
            go_simp
            (try with_reducible rfl)
          (try simp only [Act.put, List.setIfInBounds_toArray, List.set_cons_zero, List.set_cons_succ])
          refine wpAnyH_take (i := 1) (oi := { dst := some 64, op := Go.Op.load 28 (Go.Operand.tmp 6), type := 28, pos := "law.go:119", after := #[{ on := 3, ground := Go.Ground.gcOnly Go.Departure.lateStores }], guard := none }) (v := ?_) rfl (by kernel_rfl) (by kernel_rfl) (by kernel_rfl) (fun _ _ _ h => h) (Or.inl ⟨by rfl, ?_⟩) (by assumption) ?_
          rotate_left
          · intro wS hSw
            refine exec_loadM (x := .tmp 6) (cs := [.int .i64 (k1 : Int), .int .i64 (N : Int), .int .u32 5]) ?_ ?_ (HPW.out _ hSw) Tryd.underlying28 rfl info_plan3 <;> rfl
          (try simp only [Act.put, List.setIfInBounds_toArray, List.set_cons_zero, List.set_cons_succ])
          refine wpAnyH_take (i := 2) (oi := { dst := some 65, op := Go.Op.move (Go.Operand.tmp 8), type := 22, pos := "law.go:119", after := #[{ on := 4, ground := Go.Ground.gcOnly Go.Departure.lateStores }], guard := none }) (v := ?_) rfl (by kernel_rfl) (by kernel_rfl) (by kernel_rfl) (fun _ _ _ h => h) (Or.inl ⟨by rfl, ?_⟩) (by assumption) ?_
          rotate_left
          · intro wS hSw
            (try dsimp only at hSw)
            go_simp
            (try with_reducible rfl)
          (try simp only [Act.put, List.setIfInBounds_toArray, List.set_cons_zero, List.set_cons_succ])
          refine wpAnyH_take (i := 3) (oi := { dst := some 2, op := Go.Op.assign (Go.Operand.tmp 63), type := 22, pos := "law.go:119", after := #[{ on := 0, ground := Go.Ground.data }, { on := 0, ground := Go.Ground.phase }, { on := 1, ground := Go.Ground.textOnly Go.Departure.lateStores }, { on := 2, ground := Go.Ground.textOnly Go.Departure.lateStores }], guard := none }) (v := ?_) rfl (by kernel_rfl) (by kernel_rfl) (by kernel_rfl) (fun _ _ _ h => h) (Or.inl ⟨by rfl, ?_⟩) (by assumption) ?_
          rotate_left
          · intro wS hSw
            (try dsimp only at hSw)
            go_simp
            (try with_reducible rfl)
          (try simp only [Act.put, List.setIfInBounds_toArray, List.set_cons_zero, List.set_cons_succ])
          refine wpAnyH_ready (rs := [4]) (by kernel_rfl) (by simp) ?_
          refine AllReadyH.cons (o := { dst := none, op := Go.Op.store 28 (Go.Operand.tmp 3) (Go.Operand.tmp 64), type := 0, pos := "law.go:119", after := #[{ on := 1, ground := Go.Ground.data }, { on := 3, ground := Go.Ground.chain }, { on := 0, ground := Go.Ground.phase }, { on := 1, ground := Go.Ground.phase }, { on := 2, ground := Go.Ground.textOnly Go.Departure.lateStores }, { on := 3, ground := Go.Ground.phase }], guard := none }) rfl (fun K hK => ?_) AllReadyH.nil
          (refine step_storeM rfl 28 (.tmp 3) (.tmp 64) rfl b3 0 #[.int .i64 (k1 : Int), .int .i64 (N : Int), .int .u32 5] rfl rfl HTH.out info_plan3 (one_plan _ _ _) ?_; have hP_1 := HXW.out.2; skip)
          refine hK.out _ _ ?_ (fun hHeld => ?_)
          · (try dsimp only)
            first | assumption | exact hP_0 | exact hP_1
          clear hK K
          (try simp only [Act.put, List.setIfInBounds_toArray, List.set_cons_zero, List.set_cons_succ])
          refine wpAnyH_take (i := 5) (oi := { dst := some 4, op := Go.Op.assign (Go.Operand.tmp 65), type := 22, pos := "law.go:119", after := #[{ on := 2, ground := Go.Ground.data }, { on := 4, ground := Go.Ground.chain }, { on := 0, ground := Go.Ground.phase }, { on := 1, ground := Go.Ground.phase }, { on := 2, ground := Go.Ground.phase }, { on := 3, ground := Go.Ground.phase }, { on := 4, ground := Go.Ground.phase }], guard := none }) (v := ?_) rfl (by kernel_rfl) (by kernel_rfl) (by kernel_rfl) (fun _ _ _ h => h) (Or.inl ⟨by rfl, ?_⟩) (by assumption) ?_
          rotate_left
          · intro wS hSw
            (try dsimp only at hSw)
            go_simp
            (try with_reducible rfl)
          (try simp only [Act.put, List.setIfInBounds_toArray, List.set_cons_zero, List.set_cons_succ])
          refine wpAnyH_done (by kernel_rfl) ?_ _
          clear hP_0 hP_1
          go_wp2_with fail
          refine bodyPost_ret (v := .tuple #[.slice (some ⟨sb, 0, none⟩) 1 1, .agg #[.int .i64 (k1 : Int), .int .i64 (N : Int), .int .u32 5], .slice (some ⟨db, 0, none⟩) k k]) ?_ rfl HQ.out
          exact results_tct Tryd.results24 _ _ b3 28 #[.int .i64 (k1 : Int), .int .i64 (N : Int), .int .u32 5] (0, 0) _ rfl HXW.out.1 Tryd.underlying28 rfl info_plan3
  · obtain ⟨hs8, sb, so, rfl, hcs⟩ := HS0.out 0 (by omega)
    have c0 : wM0.cell? ⟨w.heap.size, 0, none⟩ = some (.slice (some ⟨sb, so, none⟩) ns cs0) := by rw [Blk.cell HM0.out.1]; rfl
    have e0 : ((ns : Int) == 0) = false := by rw [beq_eq_false_iff_ne]; omega
    have hsb : sb < w.heap.size := World.block_lt_of_cell? w _ hcs
    have HMB := HM0
    obtain ⟨wM, hwM⟩ : ∃ x, wM0 = x := ⟨_, rfl⟩
    rw [hwM] at HMB c0 hwM0 HNB0
    clear HM0 hcs hs8
    subst hwM
    have HSB : Hid (sb < wM0.heap.size) := Lib.hid (Nat.lt_of_lt_of_le hsb HMB.out.2.2.2.2.size)
    have HNB : Hid (w.heap.size ≤ b3 ∧ b6 ≠ b3 ∧ sb ≠ b3 ∧ b3 < wM0.heap.size) := Lib.hid (by have := HNB0.out; omega)
    obtain ⟨s, hsf⟩ : ∃ x, s0 = x := ⟨_, rfl⟩
    obtain ⟨cs, hcs⟩ : ∃ x, cs0 = x := ⟨_, rfl⟩
    subst hsf hcs
    by_cases h40 : 40 < ns
    · have e1 : decide (40 < (ns : Int)) = true := decide_eq_true (by omega)
      have HSEC : Hid (Bytes wM0 (some ⟨sb, so, none⟩) 40 s0) := Lib.hid ((HS0.out.later HMB.out.2.2.2.2).mono (by omega))
      obtain ⟨M, hM⟩ : ∃ x, 40 * k = x := ⟨_, rfl⟩
      have hMb : M ≤ 40 * 6 := by omega
      have w6 : (k : Int) * 40 = (M : Int) := by omega
      have w5 : IntKind.i64.wrap (M : Int) = (M : Int) := IntWalk.i64_in _ (by omega)
      have HNU : Hid (k1 = k + 1 ∧ M = 40 * k ∧ 1 ≤ 40 ∧ 40 ≤ 40 ∧ 1 ≤ k ∧ k ≤ 6 ∧ k + 1 ≤ N ∧ N ≤ 15 ∧ 40 ≤ cs0 ∧ cs0 ≤ maxLen) := Lib.hid (by
        have h9 := HKN.out
        refine ⟨by omega, by omega, by omega, by omega, by omega, by omega, by omega, by omega, by omega, hcm⟩)
      have hc40 : 40 ≤ cs0 := by omega
      clear hM hcm hnd hnc hkb h0 hsb
      go_enter Tryd.func24, Tryd.ntmps24
      have hM9 : M < 1000000000000 := by omega
      go_wp2_with (refine wpList_mk rfl (.tmp 40) (.tmp 40) rfl M rfl rfl hM9 ?_)
      have hR0 := row_new wM0 M (fun _ => 0)
      have hb0 : Below wM0.heap.size wM0 (wM0.alloc (.cells (rowC M (fun _ => 0)).toArray 5)) := (Below.refl _ _).alloc (Nat.le_refl _) _
      obtain ⟨db, hdb⟩ : ∃ x, wM0.heap.size = x := ⟨_, rfl⟩
      obtain ⟨wN, hwN⟩ : ∃ x, wM0.alloc (.cells (rowC M (fun _ => 0)).toArray 5) = x := ⟨_, rfl⟩
      rw [hwN, hdb] at hR0
      rw [hwN] at hb0 ⊢
      rw [hdb]
      have HDB := Lib.hid hdb
      clear hwN hdb hM9
      go_wp2_with fail
      go_loopw [9] (fun x wr => ∃ i F, i ≤ M ∧ x = .int .i64 (i : Nat) ∧ Row wr db M F ∧ (∀ j, j < M → F j < 256) ∧ Below wM0.heap.size wM0 wr) (fun x _ => M - (intOf x).toNat)
      case atStart => exact ⟨0, fun _ => 0, Nat.zero_le _, rfl, hR0, fun _ _ => (by decide : 0 < 256), hb0⟩
      case round =>
        obtain ⟨i, F, hi, rfl, hR, hF, hb⟩ := hrel
        have HR := Lib.hid hR
        have HF := Lib.hid hF
        have HB := Lib.hid hb
        clear hR0 hb0 hR hF hb
        have hc1 : wr.cell? ⟨w.heap.size, 3, none⟩ = some (.slice od nd cd) := by rw [Blk.cell (Blk.below HMB.out.1 HB.out (Blk.lt HMB.out.1))]; rfl
        by_cases hgo : i < M ∧ i < nd
        · obtain ⟨h1, h2⟩ := hgo
          obtain ⟨hd8, b9, o9, rfl, hc⟩ := (HDD.out.later (HMB.out.2.2.2.2.trans (HB.out.mono HMB.out.2.2.2.2.size))) i h2
          have hi0 : (0 : Int) ≤ (i : Int) := by omega
          have hi1 : (i : Int) < (M : Int) := by omega
          have hi2 : (i : Int) < (nd : Int) := by omega
          have hx0 := HR.out.cell h1
          have hf0 := Blk.free HR.out i
          have HR2 := Lib.hid (HR.out.set i (dd i))
          have HB2 := Lib.hid (HB.out.setCell (p := ⟨db, i, none⟩) (Nat.le_of_eq HDB.out) (.int .u8 (dd i : Nat)))
          have HF2 : Hid (∀ j, j < M → upd F i (dd i) j < 256) := Lib.hid fun j hj => by
            unfold upd; split
            · exact hd8
            · exact HF.out j hj
          go_wp2_with fail
          go_roundw
          case rel => exact ⟨i + 1, _, by omega, by go_num, HR2.out, HF2.out, HB2.out⟩
          case measure => simp [intOf]; omega
        · have HP6 := Lib.hid (Blk.below HMB.out.2.2.1 HB.out (Blk.lt HMB.out.2.2.1))
          have HP3 := Blk.below HMB.out.2.1 HB.out (Blk.lt HMB.out.2.1)
          have HTH : Hid (wr.drew.there b3 0 3) := Lib.hid (HP3.drew.there (by decide))
          have hO3 := Own.setCells (b := b3) [.int .i64 (k1 : Int), .int .i64 (N : Int), .int .u32 5] 0 wr.drew
          have HXW : Hid (Blk (wr.drew.setCells b3 0 [.int .i64 (k1 : Int), .int .i64 (N : Int), .int .u32 5]) b3 #[.int .i64 (k1 : Int), .int .i64 (N : Int), .int .u32 5] 28 ∧ Blk (wr.drew.setCells b3 0 [.int .i64 (k1 : Int), .int .i64 (N : Int), .int .u32 5]) b6 [.int .i64 (k1 : Int), .int .i64 (N : Int), .int .u32 5].toArray 28) := Lib.hid ⟨HP3.drew.whole3 rfl _ _ _, hO3.blk HP6.out.drew HNB.out.2.1⟩
          have HQ : Hid (LaidR w (.returned (.tuple #[.slice (some ⟨sb, so, none⟩) 40 cs0, .agg #[.int .i64 (k1 : Int), .int .i64 (N : Int), .int .u32 5], .slice (some ⟨db, 0, none⟩) M M])) (wr.drew.setCells b3 0 [.int .i64 (k1 : Int), .int .i64 (N : Int), .int .u32 5])) := Lib.hid ⟨sb, so, 40, cs0, k, N, db, s0, F, by rw [HNU.out.1, HNU.out.2.1], ((HSEC.out.later HB.out).own hO3.undrew (Apart.of_ne HNB.out.2.2.1)), by rw [← HNU.out.2.1]; exact ((HR.out.own hO3.undrew (by have := HNB.out; have := HDB.out; omega)).bytes HF.out), by have := HNB.out; have := HDB.out; have := HMB.out.2.2.2.2.size; omega, by have := HSB.out; have := HDB.out; omega, HNU.out.2.2.1, HNU.out.2.2.2.1, HNU.out.2.2.2.2.1, HNU.out.2.2.2.2.2.1, HNU.out.2.2.2.2.2.2.1, HNU.out.2.2.2.2.2.2.2.1, HNU.out.2.2.2.2.2.2.2.2.1, HNU.out.2.2.2.2.2.2.2.2.2, (HMB.out.2.2.2.2.trans (HB.out.mono HMB.out.2.2.2.2.size)).trans (hO3.undrew.below HNB.out.1 (Nat.le_trans HMB.out.2.2.2.2.size HB.out.size))⟩
          have hP_0 : Blk wr.drew b6 [.int .i64 (k1 : Int), .int .i64 (N : Int), .int .u32 5].toArray 28 := HP6.out.drew
          have HPW : Hid (∀ w7, Blk w7 b6 [.int .i64 (k1 : Int), .int .i64 (N : Int), .int .u32 5].toArray 28 → w7.rangeAt b6 0 [.int .i64 (k1 : Int), .int .i64 (N : Int), .int .u32 5]) := Lib.hid fun _ h => h.range0
          clear hO3 HP3
          by_cases h1 : i < M
          · have h2 : ¬ i < nd := fun h2 => hgo ⟨h1, h2⟩
            have d1 : (i : Int) < (M : Int) := by omega
            have d2 : decide ((i : Int) < (nd : Int)) = false := decide_eq_false (by omega)
            clear hgo
            go_wp2_with fail
            refine wp_region_held_drew (S := (fun w7 => Blk w7 b6 [.int .i64 (k1 : Int), .int .i64 (N : Int), .int .u32 5].toArray 28)) (by kernel_rfl) ?_ (fun hHeld => ?_)
            · (try dsimp only)
              first | assumption | exact hP_0 | exact hP_1
            generalize wr.drew = W5 at *
            refine wpAnyH_take (i := 0) (oi := { dst := some 63, op := Go.Op.move (Go.Operand.tmp 7), type := 22, pos := "law.go:119", after := #[], guard := none }) (v := ?_) rfl (by kernel_rfl) (by kernel_rfl) (by kernel_rfl) (fun _ _ _ h => h) (Or.inl ⟨by rfl, ?_⟩) (by assumption) ?_
            rotate_left
            · intro wS hSw
              (try dsimp only at hSw)
              go_simp
              (try with_reducible rfl)
            (try simp only [Act.put, List.setIfInBounds_toArray, List.set_cons_zero, List.set_cons_succ])
            refine wpAnyH_take (i := 1) (oi := { dst := some 64, op := Go.Op.load 28 (Go.Operand.tmp 6), type := 28, pos := "law.go:119", after := #[{ on := 3, ground := Go.Ground.gcOnly Go.Departure.lateStores }], guard := none }) (v := ?_) rfl (by kernel_rfl) (by kernel_rfl) (by kernel_rfl) (fun _ _ _ h => h) (Or.inl ⟨by rfl, ?_⟩) (by assumption) ?_
            rotate_left
            · intro wS hSw
              refine exec_loadM (x := .tmp 6) (cs := [.int .i64 (k1 : Int), .int .i64 (N : Int), .int .u32 5]) ?_ ?_ (HPW.out _ hSw) Tryd.underlying28 rfl info_plan3 <;> rfl
            (try simp only [Act.put, List.setIfInBounds_toArray, List.set_cons_zero, List.set_cons_succ])
            refine wpAnyH_take (i := 2) (oi := { dst := some 65, op := Go.Op.move (Go.Operand.tmp 8), type := 22, pos := "law.go:119", after := #[{ on := 4, ground := Go.Ground.gcOnly Go.Departure.lateStores }], guard := none }) (v := ?_) rfl (by kernel_rfl) (by kernel_rfl) (by kernel_rfl) (fun _ _ _ h => h) (Or.inl ⟨by rfl, ?_⟩) (by assumption) ?_
            rotate_left
            · intro wS hSw
              (try dsimp only at hSw)
              go_simp
              (try with_reducible rfl)
            (try simp only [Act.put, List.setIfInBounds_toArray, List.set_cons_zero, List.set_cons_succ])
            refine wpAnyH_take (i := 3) (oi := { dst := some 2, op := Go.Op.assign (Go.Operand.tmp 63), type := 22, pos := "law.go:119", after := #[{ on := 0, ground := Go.Ground.data }, { on := 0, ground := Go.Ground.phase }, { on := 1, ground := Go.Ground.textOnly Go.Departure.lateStores }, { on := 2, ground := Go.Ground.textOnly Go.Departure.lateStores }], guard := none }) (v := ?_) rfl (by kernel_rfl) (by kernel_rfl) (by kernel_rfl) (fun _ _ _ h => h) (Or.inl ⟨by rfl, ?_⟩) (by assumption) ?_
            rotate_left
            · intro wS hSw
              (try dsimp only at hSw)
              go_simp
              (try with_reducible rfl)
            (try simp only [Act.put, List.setIfInBounds_toArray, List.set_cons_zero, List.set_cons_succ])
            refine wpAnyH_ready (rs := [4]) (by kernel_rfl) (by simp) ?_
            refine AllReadyH.cons (o := { dst := none, op := Go.Op.store 28 (Go.Operand.tmp 3) (Go.Operand.tmp 64), type := 0, pos := "law.go:119", after := #[{ on := 1, ground := Go.Ground.data }, { on := 3, ground := Go.Ground.chain }, { on := 0, ground := Go.Ground.phase }, { on := 1, ground := Go.Ground.phase }, { on := 2, ground := Go.Ground.textOnly Go.Departure.lateStores }, { on := 3, ground := Go.Ground.phase }], guard := none }) rfl (fun K hK => ?_) AllReadyH.nil
            (refine step_storeM rfl 28 (.tmp 3) (.tmp 64) rfl b3 0 #[.int .i64 (k1 : Int), .int .i64 (N : Int), .int .u32 5] rfl rfl HTH.out info_plan3 (one_plan _ _ _) ?_; have hP_1 := HXW.out.2; skip)
            refine hK.out _ _ ?_ (fun hHeld => ?_)
            · (try dsimp only)
              first | assumption | exact hP_0 | exact hP_1
            clear hK K
            (try simp only [Act.put, List.setIfInBounds_toArray, List.set_cons_zero, List.set_cons_succ])
            refine wpAnyH_take (i := 5) (oi := { dst := some 4, op := Go.Op.assign (Go.Operand.tmp 65), type := 22, pos := "law.go:119", after := #[{ on := 2, ground := Go.Ground.data }, { on := 4, ground := Go.Ground.chain }, { on := 0, ground := Go.Ground.phase }, { on := 1, ground := Go.Ground.phase }, { on := 2, ground := Go.Ground.phase }, { on := 3, ground := Go.Ground.phase }, { on := 4, ground := Go.Ground.phase }], guard := none }) (v := ?_) rfl (by kernel_rfl) (by kernel_rfl) (by kernel_rfl) (fun _ _ _ h => h) (Or.inl ⟨by rfl, ?_⟩) (by assumption) ?_
            rotate_left
            · intro wS hSw
              (try dsimp only at hSw)
              go_simp
              (try with_reducible rfl)
            (try simp only [Act.put, List.setIfInBounds_toArray, List.set_cons_zero, List.set_cons_succ])
            refine wpAnyH_done (by kernel_rfl) ?_ _
            clear hP_0 hP_1
            go_wp2_with fail
            refine bodyPost_ret (v := .tuple #[.slice (some ⟨sb, so, none⟩) 40 cs0, .agg #[.int .i64 (k1 : Int), .int .i64 (N : Int), .int .u32 5], .slice (some ⟨db, 0, none⟩) M M]) ?_ rfl HQ.out
            exact results_tct Tryd.results24 _ _ b3 28 #[.int .i64 (k1 : Int), .int .i64 (N : Int), .int .u32 5] (0, 0) _ rfl HXW.out.1 Tryd.underlying28 rfl info_plan3
          · have d1 : decide ((i : Int) < (M : Int)) = false := decide_eq_false (by omega)
            clear hgo
            go_wp2_with fail
            refine wp_region_held_drew (S := (fun w7 => Blk w7 b6 [.int .i64 (k1 : Int), .int .i64 (N : Int), .int .u32 5].toArray 28)) (by kernel_rfl) ?_ (fun hHeld => ?_)
            · (try dsimp only)
              first | assumption | exact hP_0 | exact hP_1
            generalize wr.drew = W5 at *
            refine wpAnyH_take (i := 0) (oi := { dst := some 63, op := Go.Op.move (Go.Operand.tmp 7), type := 22, pos := "law.go:119", after := #[], guard := none }) (v := ?_) rfl (by kernel_rfl) (by kernel_rfl) (by kernel_rfl) (fun _ _ _ h => h) (Or.inl ⟨by rfl, ?_⟩) (by assumption) ?_
            rotate_left
            · intro wS hSw
              (try dsimp only at hSw)
              go_simp
              (try with_reducible rfl)
            (try simp only [Act.put, List.setIfInBounds_toArray, List.set_cons_zero, List.set_cons_succ])
            refine wpAnyH_take (i := 1) (oi := { dst := some 64, op := Go.Op.load 28 (Go.Operand.tmp 6), type := 28, pos := "law.go:119", after := #[{ on := 3, ground := Go.Ground.gcOnly Go.Departure.lateStores }], guard := none }) (v := ?_) rfl (by kernel_rfl) (by kernel_rfl) (by kernel_rfl) (fun _ _ _ h => h) (Or.inl ⟨by rfl, ?_⟩) (by assumption) ?_
            rotate_left
            · intro wS hSw
              refine exec_loadM (x := .tmp 6) (cs := [.int .i64 (k1 : Int), .int .i64 (N : Int), .int .u32 5]) ?_ ?_ (HPW.out _ hSw) Tryd.underlying28 rfl info_plan3 <;> rfl
            (try simp only [Act.put, List.setIfInBounds_toArray, List.set_cons_zero, List.set_cons_succ])
            refine wpAnyH_take (i := 2) (oi := { dst := some 65, op := Go.Op.move (Go.Operand.tmp 8), type := 22, pos := "law.go:119", after := #[{ on := 4, ground := Go.Ground.gcOnly Go.Departure.lateStores }], guard := none }) (v := ?_) rfl (by kernel_rfl) (by kernel_rfl) (by kernel_rfl) (fun _ _ _ h => h) (Or.inl ⟨by rfl, ?_⟩) (by assumption) ?_
            rotate_left
            · intro wS hSw
              (try dsimp only at hSw)
              go_simp
              (try with_reducible rfl)
            (try simp only [Act.put, List.setIfInBounds_toArray, List.set_cons_zero, List.set_cons_succ])
            refine wpAnyH_take (i := 3) (oi := { dst := some 2, op := Go.Op.assign (Go.Operand.tmp 63), type := 22, pos := "law.go:119", after := #[{ on := 0, ground := Go.Ground.data }, { on := 0, ground := Go.Ground.phase }, { on := 1, ground := Go.Ground.textOnly Go.Departure.lateStores }, { on := 2, ground := Go.Ground.textOnly Go.Departure.lateStores }], guard := none }) (v := ?_) rfl (by kernel_rfl) (by kernel_rfl) (by kernel_rfl) (fun _ _ _ h => h) (Or.inl ⟨by rfl, ?_⟩) (by assumption) ?_
            rotate_left
            · intro wS hSw
              (try dsimp only at hSw)
              go_simp
              (try with_reducible rfl)
            (try simp only [Act.put, List.setIfInBounds_toArray, List.set_cons_zero, List.set_cons_succ])
            refine wpAnyH_ready (rs := [4]) (by kernel_rfl) (by simp) ?_
            refine AllReadyH.cons (o := { dst := none, op := Go.Op.store 28 (Go.Operand.tmp 3) (Go.Operand.tmp 64), type := 0, pos := "law.go:119", after := #[{ on := 1, ground := Go.Ground.data }, { on := 3, ground := Go.Ground.chain }, { on := 0, ground := Go.Ground.phase }, { on := 1, ground := Go.Ground.phase }, { on := 2, ground := Go.Ground.textOnly Go.Departure.lateStores }, { on := 3, ground := Go.Ground.phase }], guard := none }) rfl (fun K hK => ?_) AllReadyH.nil
            (refine step_storeM rfl 28 (.tmp 3) (.tmp 64) rfl b3 0 #[.int .i64 (k1 : Int), .int .i64 (N : Int), .int .u32 5] rfl rfl HTH.out info_plan3 (one_plan _ _ _) ?_; have hP_1 := HXW.out.2; skip)
            refine hK.out _ _ ?_ (fun hHeld => ?_)
            · (try dsimp only)
              first | assumption | exact hP_0 | exact hP_1
            clear hK K
            (try simp only [Act.put, List.setIfInBounds_toArray, List.set_cons_zero, List.set_cons_succ])
            refine wpAnyH_take (i := 5) (oi := { dst := some 4, op := Go.Op.assign (Go.Operand.tmp 65), type := 22, pos := "law.go:119", after := #[{ on := 2, ground := Go.Ground.data }, { on := 4, ground := Go.Ground.chain }, { on := 0, ground := Go.Ground.phase }, { on := 1, ground := Go.Ground.phase }, { on := 2, ground := Go.Ground.phase }, { on := 3, ground := Go.Ground.phase }, { on := 4, ground := Go.Ground.phase }], guard := none }) (v := ?_) rfl (by kernel_rfl) (by kernel_rfl) (by kernel_rfl) (fun _ _ _ h => h) (Or.inl ⟨by rfl, ?_⟩) (by assumption) ?_
            rotate_left
            · intro wS hSw
              (try dsimp only at hSw)
              go_simp
              (try with_reducible rfl)
            (try simp only [Act.put, List.setIfInBounds_toArray, List.set_cons_zero, List.set_cons_succ])
            refine wpAnyH_done (by kernel_rfl) ?_ _
            clear hP_0 hP_1
            go_wp2_with fail
            refine bodyPost_ret (v := .tuple #[.slice (some ⟨sb, so, none⟩) 40 cs0, .agg #[.int .i64 (k1 : Int), .int .i64 (N : Int), .int .u32 5], .slice (some ⟨db, 0, none⟩) M M]) ?_ rfl HQ.out
            exact results_tct Tryd.results24 _ _ b3 28 #[.int .i64 (k1 : Int), .int .i64 (N : Int), .int .u32 5] (0, 0) _ rfl HXW.out.1 Tryd.underlying28 rfl info_plan3
    · obtain ⟨L, hL⟩ : ∃ x : Nat, ns = x := ⟨_, rfl⟩
      have e1 : decide (40 < (ns : Int)) = false := decide_eq_false (by omega)
      subst hL
      have HSEC : Hid (Bytes wM0 (some ⟨sb, so, none⟩) ns s0) := Lib.hid (HS0.out.later HMB.out.2.2.2.2)
      obtain ⟨M, hM⟩ : ∃ x, ns * k = x := ⟨_, rfl⟩
      have hMb : M ≤ 40 * 6 := by rw [← hM]; exact Nat.mul_le_mul (by omega) hkb
      have w5 : IntKind.i64.wrap ((k : Int) * (ns : Int)) = (M : Int) := by rw [← Int.natCast_mul, Nat.mul_comm, hM]; exact IntWalk.i64_in _ (by omega)
      have HNU : Hid (k1 = k + 1 ∧ M = ns * k ∧ 1 ≤ ns ∧ ns ≤ 40 ∧ 1 ≤ k ∧ k ≤ 6 ∧ k + 1 ≤ N ∧ N ≤ 15 ∧ ns ≤ cs0 ∧ cs0 ≤ maxLen) := Lib.hid (by
        have h9 := HKN.out
        refine ⟨by omega, hM.symm, by omega, by omega, by omega, by omega, by omega, by omega, by omega, hcm⟩)
      clear hM hcm hnd hnc hkb h0 hsb h40
      go_enter Tryd.func24, Tryd.ntmps24
      have hM9 : M < 1000000000000 := by omega
      go_wp2_with (refine wpList_mk rfl (.tmp 40) (.tmp 40) rfl M rfl rfl hM9 ?_)
      have hR0 := row_new wM0 M (fun _ => 0)
      have hb0 : Below wM0.heap.size wM0 (wM0.alloc (.cells (rowC M (fun _ => 0)).toArray 5)) := (Below.refl _ _).alloc (Nat.le_refl _) _
      obtain ⟨db, hdb⟩ : ∃ x, wM0.heap.size = x := ⟨_, rfl⟩
      obtain ⟨wN, hwN⟩ : ∃ x, wM0.alloc (.cells (rowC M (fun _ => 0)).toArray 5) = x := ⟨_, rfl⟩
      rw [hwN, hdb] at hR0
      rw [hwN] at hb0 ⊢
      rw [hdb]
      have HDB := Lib.hid hdb
      clear hwN hdb hM9
      go_wp2_with fail
      go_loopw [9] (fun x wr => ∃ i F, i ≤ M ∧ x = .int .i64 (i : Nat) ∧ Row wr db M F ∧ (∀ j, j < M → F j < 256) ∧ Below wM0.heap.size wM0 wr) (fun x _ => M - (intOf x).toNat)
      case atStart => exact ⟨0, fun _ => 0, Nat.zero_le _, rfl, hR0, fun _ _ => (by decide : 0 < 256), hb0⟩
      case round =>
        obtain ⟨i, F, hi, rfl, hR, hF, hb⟩ := hrel
        have HR := Lib.hid hR
        have HF := Lib.hid hF
        have HB := Lib.hid hb
        clear hR0 hb0 hR hF hb
        have hc1 : wr.cell? ⟨w.heap.size, 3, none⟩ = some (.slice od nd cd) := by rw [Blk.cell (Blk.below HMB.out.1 HB.out (Blk.lt HMB.out.1))]; rfl
        by_cases hgo : i < M ∧ i < nd
        · obtain ⟨h1, h2⟩ := hgo
          obtain ⟨hd8, b9, o9, rfl, hc⟩ := (HDD.out.later (HMB.out.2.2.2.2.trans (HB.out.mono HMB.out.2.2.2.2.size))) i h2
          have hi0 : (0 : Int) ≤ (i : Int) := by omega
          have hi1 : (i : Int) < (M : Int) := by omega
          have hi2 : (i : Int) < (nd : Int) := by omega
          have hx0 := HR.out.cell h1
          have hf0 := Blk.free HR.out i
          have HR2 := Lib.hid (HR.out.set i (dd i))
          have HB2 := Lib.hid (HB.out.setCell (p := ⟨db, i, none⟩) (Nat.le_of_eq HDB.out) (.int .u8 (dd i : Nat)))
          have HF2 : Hid (∀ j, j < M → upd F i (dd i) j < 256) := Lib.hid fun j hj => by
            unfold upd; split
            · exact hd8
            · exact HF.out j hj
          go_wp2_with fail
          go_roundw
          case rel => exact ⟨i + 1, _, by omega, by go_num, HR2.out, HF2.out, HB2.out⟩
          case measure => simp [intOf]; omega
        · have HP6 := Lib.hid (Blk.below HMB.out.2.2.1 HB.out (Blk.lt HMB.out.2.2.1))
          have HP3 := Blk.below HMB.out.2.1 HB.out (Blk.lt HMB.out.2.1)
          have HTH : Hid (wr.drew.there b3 0 3) := Lib.hid (HP3.drew.there (by decide))
          have hO3 := Own.setCells (b := b3) [.int .i64 (k1 : Int), .int .i64 (N : Int), .int .u32 5] 0 wr.drew
          have HXW : Hid (Blk (wr.drew.setCells b3 0 [.int .i64 (k1 : Int), .int .i64 (N : Int), .int .u32 5]) b3 #[.int .i64 (k1 : Int), .int .i64 (N : Int), .int .u32 5] 28 ∧ Blk (wr.drew.setCells b3 0 [.int .i64 (k1 : Int), .int .i64 (N : Int), .int .u32 5]) b6 [.int .i64 (k1 : Int), .int .i64 (N : Int), .int .u32 5].toArray 28) := Lib.hid ⟨HP3.drew.whole3 rfl _ _ _, hO3.blk HP6.out.drew HNB.out.2.1⟩
          have HQ : Hid (LaidR w (.returned (.tuple #[.slice (some ⟨sb, so, none⟩) ns cs0, .agg #[.int .i64 (k1 : Int), .int .i64 (N : Int), .int .u32 5], .slice (some ⟨db, 0, none⟩) M M])) (wr.drew.setCells b3 0 [.int .i64 (k1 : Int), .int .i64 (N : Int), .int .u32 5])) := Lib.hid ⟨sb, so, ns, cs0, k, N, db, s0, F, by rw [HNU.out.1, HNU.out.2.1], ((HSEC.out.later HB.out).own hO3.undrew (Apart.of_ne HNB.out.2.2.1)), by rw [← HNU.out.2.1]; exact ((HR.out.own hO3.undrew (by have := HNB.out; have := HDB.out; omega)).bytes HF.out), by have := HNB.out; have := HDB.out; have := HMB.out.2.2.2.2.size; omega, by have := HSB.out; have := HDB.out; omega, HNU.out.2.2.1, HNU.out.2.2.2.1, HNU.out.2.2.2.2.1, HNU.out.2.2.2.2.2.1, HNU.out.2.2.2.2.2.2.1, HNU.out.2.2.2.2.2.2.2.1, HNU.out.2.2.2.2.2.2.2.2.1, HNU.out.2.2.2.2.2.2.2.2.2, (HMB.out.2.2.2.2.trans (HB.out.mono HMB.out.2.2.2.2.size)).trans (hO3.undrew.below HNB.out.1 (Nat.le_trans HMB.out.2.2.2.2.size HB.out.size))⟩
          have hP_0 : Blk wr.drew b6 [.int .i64 (k1 : Int), .int .i64 (N : Int), .int .u32 5].toArray 28 := HP6.out.drew
          have HPW : Hid (∀ w7, Blk w7 b6 [.int .i64 (k1 : Int), .int .i64 (N : Int), .int .u32 5].toArray 28 → w7.rangeAt b6 0 [.int .i64 (k1 : Int), .int .i64 (N : Int), .int .u32 5]) := Lib.hid fun _ h => h.range0
          clear hO3 HP3
          by_cases h1 : i < M
          · have h2 : ¬ i < nd := fun h2 => hgo ⟨h1, h2⟩
            have d1 : (i : Int) < (M : Int) := by omega
            have d2 : decide ((i : Int) < (nd : Int)) = false := decide_eq_false (by omega)
            clear hgo
            go_wp2_with fail
            refine wp_region_held_drew (S := (fun w7 => Blk w7 b6 [.int .i64 (k1 : Int), .int .i64 (N : Int), .int .u32 5].toArray 28)) (by kernel_rfl) ?_ (fun hHeld => ?_)
            · (try dsimp only)
              first | assumption | exact hP_0 | exact hP_1
            generalize wr.drew = W5 at *
            refine wpAnyH_take (i := 0) (oi := { dst := some 63, op := Go.Op.move (Go.Operand.tmp 7), type := 22, pos := "law.go:119", after := #[], guard := none }) (v := ?_) rfl (by kernel_rfl) (by kernel_rfl) (by kernel_rfl) (fun _ _ _ h => h) (Or.inl ⟨by rfl, ?_⟩) (by assumption) ?_
            rotate_left
            · intro wS hSw
              (try dsimp only at hSw)
              go_simp
              (try with_reducible rfl)
            (try simp only [Act.put, List.setIfInBounds_toArray, List.set_cons_zero, List.set_cons_succ])
            refine wpAnyH_take (i := 1) (oi := { dst := some 64, op := Go.Op.load 28 (Go.Operand.tmp 6), type := 28, pos := "law.go:119", after := #[{ on := 3, ground := Go.Ground.gcOnly Go.Departure.lateStores }], guard := none }) (v := ?_) rfl (by kernel_rfl) (by kernel_rfl) (by kernel_rfl) (fun _ _ _ h => h) (Or.inl ⟨by rfl, ?_⟩) (by assumption) ?_
            rotate_left
            · intro wS hSw
              refine exec_loadM (x := .tmp 6) (cs := [.int .i64 (k1 : Int), .int .i64 (N : Int), .int .u32 5]) ?_ ?_ (HPW.out _ hSw) Tryd.underlying28 rfl info_plan3 <;> rfl
            (try simp only [Act.put, List.setIfInBounds_toArray, List.set_cons_zero, List.set_cons_succ])
            refine wpAnyH_take (i := 2) (oi := { dst := some 65, op := Go.Op.move (Go.Operand.tmp 8), type := 22, pos := "law.go:119", after := #[{ on := 4, ground := Go.Ground.gcOnly Go.Departure.lateStores }], guard := none }) (v := ?_) rfl (by kernel_rfl) (by kernel_rfl) (by kernel_rfl) (fun _ _ _ h => h) (Or.inl ⟨by rfl, ?_⟩) (by assumption) ?_
            rotate_left
            · intro wS hSw
              (try dsimp only at hSw)
              go_simp
              (try with_reducible rfl)
            (try simp only [Act.put, List.setIfInBounds_toArray, List.set_cons_zero, List.set_cons_succ])
            refine wpAnyH_take (i := 3) (oi := { dst := some 2, op := Go.Op.assign (Go.Operand.tmp 63), type := 22, pos := "law.go:119", after := #[{ on := 0, ground := Go.Ground.data }, { on := 0, ground := Go.Ground.phase }, { on := 1, ground := Go.Ground.textOnly Go.Departure.lateStores }, { on := 2, ground := Go.Ground.textOnly Go.Departure.lateStores }], guard := none }) (v := ?_) rfl (by kernel_rfl) (by kernel_rfl) (by kernel_rfl) (fun _ _ _ h => h) (Or.inl ⟨by rfl, ?_⟩) (by assumption) ?_
            rotate_left
            · intro wS hSw
              (try dsimp only at hSw)
              go_simp
              (try with_reducible rfl)
            (try simp only [Act.put, List.setIfInBounds_toArray, List.set_cons_zero, List.set_cons_succ])
            refine wpAnyH_ready (rs := [4]) (by kernel_rfl) (by simp) ?_
            refine AllReadyH.cons (o := { dst := none, op := Go.Op.store 28 (Go.Operand.tmp 3) (Go.Operand.tmp 64), type := 0, pos := "law.go:119", after := #[{ on := 1, ground := Go.Ground.data }, { on := 3, ground := Go.Ground.chain }, { on := 0, ground := Go.Ground.phase }, { on := 1, ground := Go.Ground.phase }, { on := 2, ground := Go.Ground.textOnly Go.Departure.lateStores }, { on := 3, ground := Go.Ground.phase }], guard := none }) rfl (fun K hK => ?_) AllReadyH.nil
            (refine step_storeM rfl 28 (.tmp 3) (.tmp 64) rfl b3 0 #[.int .i64 (k1 : Int), .int .i64 (N : Int), .int .u32 5] rfl rfl HTH.out info_plan3 (one_plan _ _ _) ?_; have hP_1 := HXW.out.2; skip)
            refine hK.out _ _ ?_ (fun hHeld => ?_)
            · (try dsimp only)
              first | assumption | exact hP_0 | exact hP_1
            clear hK K
            (try simp only [Act.put, List.setIfInBounds_toArray, List.set_cons_zero, List.set_cons_succ])
            refine wpAnyH_take (i := 5) (oi := { dst := some 4, op := Go.Op.assign (Go.Operand.tmp 65), type := 22, pos := "law.go:119", after := #[{ on := 2, ground := Go.Ground.data }, { on := 4, ground := Go.Ground.chain }, { on := 0, ground := Go.Ground.phase }, { on := 1, ground := Go.Ground.phase }, { on := 2, ground := Go.Ground.phase }, { on := 3, ground := Go.Ground.phase }, { on := 4, ground := Go.Ground.phase }], guard := none }) (v := ?_) rfl (by kernel_rfl) (by kernel_rfl) (by kernel_rfl) (fun _ _ _ h => h) (Or.inl ⟨by rfl, ?_⟩) (by assumption) ?_
            rotate_left
            · intro wS hSw
              (try dsimp only at hSw)
              go_simp
              (try with_reducible rfl)
            (try simp only [Act.put, List.setIfInBounds_toArray, List.set_cons_zero, List.set_cons_succ])
            refine wpAnyH_done (by kernel_rfl) ?_ _
            clear hP_0 hP_1
            go_wp2_with fail
            refine bodyPost_ret (v := .tuple #[.slice (some ⟨sb, so, none⟩) ns cs0, .agg #[.int .i64 (k1 : Int), .int .i64 (N : Int), .int .u32 5], .slice (some ⟨db, 0, none⟩) M M]) ?_ rfl HQ.out
            exact results_tct Tryd.results24 _ _ b3 28 #[.int .i64 (k1 : Int), .int .i64 (N : Int), .int .u32 5] (0, 0) _ rfl HXW.out.1 Tryd.underlying28 rfl info_plan3
          · have d1 : decide ((i : Int) < (M : Int)) = false := decide_eq_false (by omega)
            clear hgo
            go_wp2_with fail
            refine wp_region_held_drew (S := (fun w7 => Blk w7 b6 [.int .i64 (k1 : Int), .int .i64 (N : Int), .int .u32 5].toArray 28)) (by kernel_rfl) ?_ (fun hHeld => ?_)
            · (try dsimp only)
              first | assumption | exact hP_0 | exact hP_1
            generalize wr.drew = W5 at *
            refine wpAnyH_take (i := 0) (oi := { dst := some 63, op := Go.Op.move (Go.Operand.tmp 7), type := 22, pos := "law.go:119", after := #[], guard := none }) (v := ?_) rfl (by kernel_rfl) (by kernel_rfl) (by kernel_rfl) (fun _ _ _ h => h) (Or.inl ⟨by rfl, ?_⟩) (by assumption) ?_
            rotate_left
            · intro wS hSw
              (try dsimp only at hSw)
              go_simp
              (try with_reducible rfl)
            (try simp only [Act.put, List.setIfInBounds_toArray, List.set_cons_zero, List.set_cons_succ])
            refine wpAnyH_take (i := 1) (oi := { dst := some 64, op := Go.Op.load 28 (Go.Operand.tmp 6), type := 28, pos := "law.go:119", after := #[{ on := 3, ground := Go.Ground.gcOnly Go.Departure.lateStores }], guard := none }) (v := ?_) rfl (by kernel_rfl) (by kernel_rfl) (by kernel_rfl) (fun _ _ _ h => h) (Or.inl ⟨by rfl, ?_⟩) (by assumption) ?_
            rotate_left
            · intro wS hSw
              refine exec_loadM (x := .tmp 6) (cs := [.int .i64 (k1 : Int), .int .i64 (N : Int), .int .u32 5]) ?_ ?_ (HPW.out _ hSw) Tryd.underlying28 rfl info_plan3 <;> rfl
            (try simp only [Act.put, List.setIfInBounds_toArray, List.set_cons_zero, List.set_cons_succ])
            refine wpAnyH_take (i := 2) (oi := { dst := some 65, op := Go.Op.move (Go.Operand.tmp 8), type := 22, pos := "law.go:119", after := #[{ on := 4, ground := Go.Ground.gcOnly Go.Departure.lateStores }], guard := none }) (v := ?_) rfl (by kernel_rfl) (by kernel_rfl) (by kernel_rfl) (fun _ _ _ h => h) (Or.inl ⟨by rfl, ?_⟩) (by assumption) ?_
            rotate_left
            · intro wS hSw
              (try dsimp only at hSw)
              go_simp
              (try with_reducible rfl)
            (try simp only [Act.put, List.setIfInBounds_toArray, List.set_cons_zero, List.set_cons_succ])
            refine wpAnyH_take (i := 3) (oi := { dst := some 2, op := Go.Op.assign (Go.Operand.tmp 63), type := 22, pos := "law.go:119", after := #[{ on := 0, ground := Go.Ground.data }, { on := 0, ground := Go.Ground.phase }, { on := 1, ground := Go.Ground.textOnly Go.Departure.lateStores }, { on := 2, ground := Go.Ground.textOnly Go.Departure.lateStores }], guard := none }) (v := ?_) rfl (by kernel_rfl) (by kernel_rfl) (by kernel_rfl) (fun _ _ _ h => h) (Or.inl ⟨by rfl, ?_⟩) (by assumption) ?_
            rotate_left
            · intro wS hSw
              (try dsimp only at hSw)
              go_simp
              (try with_reducible rfl)
            (try simp only [Act.put, List.setIfInBounds_toArray, List.set_cons_zero, List.set_cons_succ])
            refine wpAnyH_ready (rs := [4]) (by kernel_rfl) (by simp) ?_
            refine AllReadyH.cons (o := { dst := none, op := Go.Op.store 28 (Go.Operand.tmp 3) (Go.Operand.tmp 64), type := 0, pos := "law.go:119", after := #[{ on := 1, ground := Go.Ground.data }, { on := 3, ground := Go.Ground.chain }, { on := 0, ground := Go.Ground.phase }, { on := 1, ground := Go.Ground.phase }, { on := 2, ground := Go.Ground.textOnly Go.Departure.lateStores }, { on := 3, ground := Go.Ground.phase }], guard := none }) rfl (fun K hK => ?_) AllReadyH.nil
            (refine step_storeM rfl 28 (.tmp 3) (.tmp 64) rfl b3 0 #[.int .i64 (k1 : Int), .int .i64 (N : Int), .int .u32 5] rfl rfl HTH.out info_plan3 (one_plan _ _ _) ?_; have hP_1 := HXW.out.2; skip)
            refine hK.out _ _ ?_ (fun hHeld => ?_)
            · (try dsimp only)
              first | assumption | exact hP_0 | exact hP_1
            clear hK K
            (try simp only [Act.put, List.setIfInBounds_toArray, List.set_cons_zero, List.set_cons_succ])
            refine wpAnyH_take (i := 5) (oi := { dst := some 4, op := Go.Op.assign (Go.Operand.tmp 65), type := 22, pos := "law.go:119", after := #[{ on := 2, ground := Go.Ground.data }, { on := 4, ground := Go.Ground.chain }, { on := 0, ground := Go.Ground.phase }, { on := 1, ground := Go.Ground.phase }, { on := 2, ground := Go.Ground.phase }, { on := 3, ground := Go.Ground.phase }, { on := 4, ground := Go.Ground.phase }], guard := none }) (v := ?_) rfl (by kernel_rfl) (by kernel_rfl) (by kernel_rfl) (fun _ _ _ h => h) (Or.inl ⟨by rfl, ?_⟩) (by assumption) ?_
            rotate_left
            · intro wS hSw
              (try dsimp only at hSw)
              go_simp
              (try with_reducible rfl)
            (try simp only [Act.put, List.setIfInBounds_toArray, List.set_cons_zero, List.set_cons_succ])
            refine wpAnyH_done (by kernel_rfl) ?_ _
            clear hP_0 hP_1
            go_wp2_with fail
            refine bodyPost_ret (v := .tuple #[.slice (some ⟨sb, so, none⟩) ns cs0, .agg #[.int .i64 (k1 : Int), .int .i64 (N : Int), .int .u32 5], .slice (some ⟨db, 0, none⟩) M M]) ?_ rfl HQ.out
            exact results_tct Tryd.results24 _ _ b3 28 #[.int .i64 (k1 : Int), .int .i64 (N : Int), .int .u32 5] (0, 0) _ rfl HXW.out.1 Tryd.underlying28 rfl info_plan3
end Go.Proofs.YtmhofofidmbgfaaDoor
