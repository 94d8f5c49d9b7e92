/- HmacSums walked. -/
import Derived.Test.YtbblibddikdakaaDoorHm6
import Derived.Test.YtbblibddikdakaaDoorRm2
import Derived.Test.YtbblibddikdakaaDoorShB
namespace Go.Proofs.YtbblibddikdakaaDoor
set_option linter.unusedVariables false
set_option linter.unusedSimpArgs false
open Go.RowKit

theorem jlen_le (L : Nat → Nat) : ∀ q, (∀ i, i < q → L i ≤ 300) → jlen L q ≤ 304 * q
  | 0, _ => Nat.le_refl _
  | q + 1, h => by
    have h1 := jlen_le L q fun i hi => h i (by omega)
    have h2 := h q (by omega)
    show jlen L q + 4 + L q ≤ _
    omega
/-- How long a row of bytes that came in may be. -/
theorem cap_reach {H : Type} {enc : TypeId × Value → H} {P : Program} {W : World} {base : Nat} {held : Bool} {T E : TypeId} {fuel : Nat} {oa : Option Addr} {n cap : Nat} {d : DataW H} {p : List MemPlace} {ts : List TypeId} {ds : List (DataW H)} {j : Nat}
    (hT : P.underlying T = some (.slice E)) (hE : P.underlying E = some (.int .u8)) (hc : P.cellsOf E = 1) (hb : P.bytesOf E = 1)
    (h : DataW.trod enc P W base (fun _ => true) held fuel T [.slice oa n cap] = some (d, p)) (hwt : (DataW.weightsEach P ts ds).all (· ≤ reachBytes) = true) (hj : ts[j]? = some T) (hd : ds[j]? = some d) : n ≤ 140737488355328 := by
  rcases Go.ChangeShapes.open_ints hT hE hc h with ⟨hcs, _⟩ | ⟨a, len, cap', zs, hcs, _, hl, hm, hz, hx, _, _⟩
  · cases hcs; omega
  · cases hcs
    have hzl : zs.length = cap := by simpa using hz
    have hd' : d = .slice (Go.ChangeShapes.lits .u8 (zs.take n)) (Go.ChangeShapes.lits .u8 (zs.drop n)) := (Prod.mk.inj hx).1
    have h1 := DataW.weights_mem_each (P := P) hj hd
    have h2 : cap ∈ d.weights P T := by
      subst hd'
      simp only [DataW.weights, hT, hb]
      refine List.mem_cons.2 (.inl ?_)
      simp [Go.ChangeShapes.lits, hzl]; omega
    have h3 := List.all_eq_true.1 hwt _ (h1 _ h2)
    have h4 : cap ≤ reachBytes := of_decide_eq_true h3
    unfold reachBytes at h4
    omega
set_option maxRecDepth 100000 in
set_option maxHeartbeats 1000000 in
theorem kwrite_nil (v : Value) (w : World) :
    Calls Tryd.prog 19 #[.pointer none, v] w fun e w' => e = .returned (.tuple #[]) ∧ w' = w := by
  go_enter Tryd.func19, Tryd.ntmps19
  go_wp2_with fail
  refine bodyPost_end (v := .tuple #[]) (by simp [results, Tryd.results19, go_sem]) rfl ?_
  exact ⟨rfl, rfl⟩
set_option maxRecDepth 100000 in
set_option maxHeartbeats 1000000 in
theorem ksum_nil (w : World) :
    Calls Tryd.prog 20 #[.pointer none] w fun e w' => e = .returned (.agg zero32) ∧ Below w.heap.size w w' := by
  have hz := zero32_run
  obtain ⟨wa, hwa⟩ : ∃ q, w.alloc (.cells zero32 27) = q := ⟨_, rfl⟩
  have hR : Blk wa w.heap.size zero32 27 := by rw [← hwa]; exact Blk.new w zero32 27
  have hb : Below w.heap.size w wa := by rw [← hwa]; exact (Below.refl _ _).alloc (Nat.le_refl _) _
  have HN : Hid (Blk (wa.setCells w.heap.size 0 zero32.toList) w.heap.size zero32 27) := Lib.hid (Blk.setCells hR (rowC 32 (fun _ => 0)) (by unfold zero32; rw [rowC_size, rowC_len]))
  have HO : Hid (Below w.heap.size w (wa.setCells w.heap.size 0 zero32.toList)) := Lib.hid (hb.trans ((Own.setCells _ 0 wa).below (Nat.le_refl _) hb.size))
  have HT : Hid (wa.there w.heap.size 0 zero32.size) := Lib.hid (Blk.there hR (Nat.le_refl _))
  have HI : Hid ((Tryd.prog.info? 27).map (·.size) = some zero32.size) := Lib.hid (info27 _)
  have HI1 : Hid (zero32.all (·.oneCell') = true) := Lib.hid (one32 _)
  clear hR hb
  go_enter Tryd.func20, Tryd.ntmps20
  go_wp2_with (first
    | (refine wpList_store_mid rfl 27 (.tmp 2) (.tmp 7) rfl w.heap.size 0 zero32 rfl rfl HT.out HI.out HI1.out ?_))
  refine bodyPost_ret (v := .agg zero32) ?_ rfl ⟨rfl, HO.out⟩
  exact results_cell_row Tryd.results20 _ _ w.heap.size 27 zero32 (0, 0) _ rfl HN.out Tryd.underlying27 rfl HI.out
set_option maxRecDepth 100000 in
set_option maxHeartbeats 4000000 in
theorem hsums_any (oa ob op : Option Addr) (n cn m cm q cq : Nat) (K B : Nat → Nat) (L : Nat → Nat) (G : Nat → Nat → Nat) (w : World) (hb : Bytes w oa n K) (hnc : n ≤ cn) (hno : oa = none → n = 0) (hcn : n ≤ 140737488355328) (hb2 : Bytes w ob m B) (hmc : m ≤ cm) (hmo : ob = none → m = 0) (hcm : m ≤ 140737488355328) (hL : LBs w op q L G) (hq : q ≤ maxLen) (hg : GV w) :
    Calls Tryd.prog 7 #[.slice oa n cn, .slice ob m cm, .slice op q cq] w fun e w' => e = .returned (.bool true) ∧ Below w.heap.size w w' := by
  unfold maxLen at hq
  have hz := zero32_run
  have HG := Lib.hid hg
  have HKB : Hid (∀ w', Below w.heap.size w w' → Bytes w' oa n K) := Lib.hid fun w' h => hb.later h
  have HBB : Hid (∀ w', Below w.heap.size w w' → Bytes w' ob m B) := Lib.hid fun w' h => hb2.later h
  have HLB : Hid (∀ w', Below w.heap.size w w' → LBs w' op q L G) := Lib.hid fun w' h i hi => by
    obtain ⟨b, off, od, cp, h1, h2, h3, h4, h5, h6⟩ := hL i hi
    exact ⟨b, off, od, cp, h1, cell_below h h2, h3, h4.later h, h5, h6⟩
  have HNC : Hid (n ≤ cn ∧ m ≤ cm) := Lib.hid ⟨hnc, hmc⟩
  have HNO := Lib.hid hno
  have HMO := Lib.hid hmo
  have HEZ : Hid (∀ w, (Op.equalIn 10000 27 (.agg zero32) (.agg zero32)).run Tryd.prog w = .ok true w) := Lib.hid fun w => by
    have := eq32 (fun _ => 0) (fun _ => 0) w; rw [eqS_refl] at this; exact this
  have hn0 : (n : Int) ≤ 9223372036854775807 := by omega
  have hm0 : (m : Int) ≤ 9223372036854775807 := by omega
  have hq0 : (q : Int) ≤ 9223372036854775807 := by omega
  clear hb hnc hno hb2 hmc hmo hL hg
  go_enter Tryd.func7, Tryd.ntmps7
  obtain ⟨s, hs⟩ : ∃ s, IntKind.i64.wrap ((n : Int) + (m : Int)) = s := ⟨_, rfl⟩
  have hcs : (20 : Int) < (q : Int) ∨ (¬ (20 : Int) < (q : Int) ∧ (800 : Int) < s) ∨ (¬ (20 : Int) < (q : Int) ∧ ¬ (800 : Int) < s) := by omega
  rcases hcs with h1 | ⟨h1, h2⟩ | ⟨h1, h2⟩
  · have h0 : True := trivial
    go_wp2_with fail
    refine (hmac_sure _ HG.out).mono ?_
    rintro e w5 ⟨rfl, hb5⟩
    have HO := Lib.hid hb5
    clear hb5
    go_wp2_with fail
    go_ret
    exact ⟨rfl, HO.out⟩
  · have h0 : True := trivial
    go_wp2_with fail
    refine (hmac_sure _ HG.out).mono ?_
    rintro e w5 ⟨rfl, hb5⟩
    have HO := Lib.hid hb5
    clear hb5
    go_wp2_with fail
    go_ret
    exact ⟨rfl, HO.out⟩
  · go_wp2_with fail
    go_loopw [8] (fun v wr => ∃ i : Nat, i ≤ q ∧ v = .int .i64 (i : Int) ∧ (∀ k, k < i → L k ≤ 300) ∧ Below w.heap.size w wr) (fun v _ => q - (intOf v).toNat)
    case atStart => exact ⟨0, Nat.zero_le _, rfl, fun k hk => absurd hk (Nat.not_lt_zero _), Below.refl _ _⟩
    case round =>
      obtain ⟨i, hi, rfl, hLi, hX⟩ := hrel
      have HX := Lib.hid hX
      have HLI := Lib.hid hLi
      clear hX hLi
      by_cases hlt : i < q
      · as_aux_lemma =>
        have i0 : (0 : Int) ≤ (i : Int) := by omega
        have i1 : (i : Int) < (q : Int) := by omega
        have iw : (i : Int) + 1 ≤ 9223372036854775807 := by omega
        have HIQ : Hid (i + 1 ≤ q ∧ q ≤ 9223372036854775807) := Lib.hid (by omega)
        obtain ⟨lb, lo, od, cpi, hop, hc1, hle, hby, hno, hcp⟩ := HLB.out _ HX.out i hlt
        subst hop
        obtain ⟨l, hl⟩ : ∃ l, L i = l := ⟨_, rfl⟩
        rw [hl] at hc1 hle hby hno
        have HLE := Lib.hid hl
        have hl0 : (l : Int) ≤ 9223372036854775807 := by unfold maxLen at hcp; omega
        clear hle hby hno hcp hi hlt hl
        by_cases h300 : 300 < l
        · have h3 : (300 : Int) < (l : Int) := by omega
          clear h300
          go_wp2_with fail
          clear hc1
          refine (hmac_sure _ (HG.out.later HX.out)).mono ?_
          rintro e w5 ⟨rfl, hb5⟩
          have HO := Lib.hid (HX.out.trans (hb5.mono HX.out.size))
          clear hb5
          go_wp2_with fail
          go_ret
          exact ⟨rfl, HO.out⟩
        · have h3 : ¬ (300 : Int) < (l : Int) := by omega
          have HL3 : Hid (l ≤ 300) := Lib.hid (by omega)
          clear h300
          go_wp2_with fail
          clear hc1
          go_roundw
          case rel => exact ⟨i + 1, HIQ.out.1, by go_num, fun k hk => by
            by_cases e : k < i
            · exact HLI.out k e
            · obtain rfl : k = i := by omega
              rw [HLE.out]; exact HL3.out, HX.out⟩
          case measure => have := HIQ.out; simp [intOf] <;> omega
      · obtain rfl : i = q := by omega
        obtain ⟨M, hM⟩ : ∃ D, hmN n K m B = D := ⟨_, rfl⟩
        obtain ⟨CM, hCM⟩ : ∃ C, (rowC 32 M).toArray = C := ⟨_, rfl⟩
        obtain ⟨P, hP⟩ : ∃ D, hmN n K (jlen L i) (jfun L G i) = D := ⟨_, rfl⟩
        obtain ⟨CP, hCP⟩ : ∃ C, (rowC 32 P).toArray = C := ⟨_, rfl⟩
        have hs2 : n + m ≤ 800 := by
          rw [IntWalk.i64_in _ (by omega)] at hs; omega
        have hjl := jlen_le L i HLI.out
        have hLB := HLB.out
        have h43 : ∀ k, k < i → L k < 4294967296 := fun k hk => by have := HLI.out k hk; omega
        have HE1 : Hid (∀ w, (Op.equalIn 10000 27 (.agg CM) (.agg CM)).run Tryd.prog w = .ok true w) := Lib.hid fun w => by
          rw [← hCM]; have := eq32 M M w; rw [eqS_refl] at this; exact this
        have HE2 : Hid (∀ w, (Op.equalIn 10000 27 (.agg CP) (.agg CP)).run Tryd.prog w = .ok true w) := Lib.hid fun w => by
          rw [← hCP]; have := eq32 P P w; rw [eqS_refl] at this; exact this
        have HM1 : Hid (∀ w', Below w.heap.size w w' → Calls Tryd.prog 21 #[.slice oa n cn, .slice ob m cm] w' fun e w'' => e = .returned (.agg CM) ∧ Below w'.heap.size w' w'') := Lib.hid fun w' h => by
          rw [← hCM, ← hM]; exact mac_any oa ob n cn m cm K B w' (HKB.out _ h) HNC.out.1 HNO.out (by omega) (HBB.out _ h) HNC.out.2 (by omega) (HG.out.later h)
        have HM2 : Hid (∀ w', Below w.heap.size w w' → Calls Tryd.prog 24 #[.slice oa n cn, .slice ob m cm] w' fun e w'' => e = .returned (.agg CM) ∧ Below w'.heap.size w' w'') := Lib.hid fun w' h => by
          rw [← hCM, ← hM]; exact rmac_any oa ob n cn m cm K B w' (HKB.out _ h) HNO.out (by omega) (HBB.out _ h) HMO.out (by omega)
        have HP1 : Hid (∀ w', Below w.heap.size w w' → Calls Tryd.prog 23 #[.slice oa n cn, .slice op i cq] w' fun e w'' => e = .returned (.agg CP) ∧ Below w'.heap.size w' w'') := Lib.hid fun w' h => by
          rw [← hCP, ← hP]; exact parts_any oa n cn K op i cq L G w' (HKB.out _ h) HNC.out.1 HNO.out (by omega) (hLB _ h) h43 (by omega) (by omega) (HG.out.later h)
        have HP2 : Hid (∀ w', Below w.heap.size w w' → Calls Tryd.prog 25 #[.slice oa n cn, .slice op i cq] w' fun e w'' => e = .returned (.agg CP) ∧ Below w'.heap.size w' w'') := Lib.hid fun w' h => by
          rw [← hCP, ← hP]; exact rparts_any oa op n cn i cq K L G w' (HKB.out _ h) HNO.out (by omega) (hLB _ h) h43 (by omega) (by omega)
        clear hM hCM hP hCP hjl hLB h43 hs2 hs hi hlt h1 h2
        go_wp2_with fail
        refine (kwrite_nil _ _).mono ?_
        rintro e w1 ⟨rfl, he1⟩
        have he1 := he1.symm
        subst he1
        go_wp2_with fail
        refine (ksum_nil _).mono ?_
        rintro e w2 ⟨rfl, hb2⟩
        have H2 := Lib.hid (HX.out.trans (hb2.mono HX.out.size))
        clear hb2
        go_wp2_with (first | (refine wpList_value rfl (exec_eql32 (x := .tmp 40) (y := .tmp 41) rfl rfl rfl HEZ.out) ?_))
        refine (HM1.out _ H2.out).mono ?_
        rintro e w3 ⟨rfl, hb3⟩
        have H3 := Lib.hid (H2.out.trans (hb3.mono H2.out.size))
        clear hb3 H2 HX
        go_wp2_with fail
        refine (HM2.out _ H3.out).mono ?_
        rintro e w4 ⟨rfl, hb4⟩
        have H4 := Lib.hid (H3.out.trans (hb4.mono H3.out.size))
        clear hb4 H3
        go_wp2_with (first | (refine wpList_valueG (by rfl) (exec_eql32 (x := .tmp 46) (y := .tmp 49) rfl rfl rfl HE1.out) ?_))
        refine (HP1.out _ H4.out).mono ?_
        rintro e w5 ⟨rfl, hb5⟩
        have H5 := Lib.hid (H4.out.trans (hb5.mono H4.out.size))
        clear hb5 H4
        go_wp2_with fail
        refine (HP2.out _ H5.out).mono ?_
        rintro e w6 ⟨rfl, hb6⟩
        have H6 := Lib.hid (H5.out.trans (hb6.mono H5.out.size))
        clear hb6 H5
        go_wp2_with (first | (refine wpList_valueG (by rfl) (exec_eql32 (x := .tmp 55) (y := .tmp 58) rfl rfl rfl HE2.out) ?_))
        refine (hmac_sure _ (HG.out.later H6.out)).mono ?_
        rintro e w7 ⟨rfl, hb7⟩
        have HO := Lib.hid (H6.out.trans (hb7.mono H6.out.size))
        clear hb7 H6
        go_wp2_with fail
        go_ret
        exact ⟨rfl, HO.out⟩
end Go.Proofs.YtbblibddikdakaaDoor
