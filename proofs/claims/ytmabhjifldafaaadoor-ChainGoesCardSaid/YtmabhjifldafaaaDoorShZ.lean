/- A hash: made, cloned. A hash: bytes written into it. A hash: its sum. Sums that are known. What must come of sums whatever the input is. -/
import Derived.Test.YtmabhjifldafaaaDoorShY
import Derived.Test.YtmabhjifldafaaaDoorApr
import Derived.Test.YtmabhjifldafaaaDoorStp
import Derived.Lib.SmallJoins
namespace Go.Proofs.YtmabhjifldafaaaDoor
set_option linter.unusedVariables false
set_option linter.unusedSimpArgs false
open Go.RowKit

theorem Own.setRow {g : Nat} (w : World) (cs : Array Value) : Own g w (w.setRow g cs) := ⟨rfl, rfl, rfl, by simp, fun k _ hn => setRow_other w g k cs hn⟩
theorem Blk.setRow {w : World} {g : Nat} {C : Array Value} {t : TypeId} (h : Blk w g C t) (D : Array Value) : Blk (w.setRow g D) g D t := setRow_heap w g C D t (0, 0) h
/-- n bytes were written into a hash, as F tells them. -/
def HS (w : World) (g n : Nat) (F : Nat → Nat) : Prop := (g ≠ 2 ∧ g ≠ 3) ∧ ∃ R, HB w g (chK F (n / 64)) R (n % 64) n ∧ (∀ i, i < n % 64 → R i = F (64 * (n / 64) + i)) ∧ ∀ i, i < 64 → R i < 256
theorem HS.congr {w : World} {g n : Nat} {F G : Nat → Nat} (h : HS w g n F) (he : ∀ i, i < n → F i = G i) : HS w g n G := by
  obtain ⟨h0, R, h1, h2, h3⟩ := h
  refine ⟨h0, R, ?_, fun i hi => ?_, h3⟩
  · rw [← chK_congr (n / 64) (fun i hi => he i (by omega))]; exact h1
  · rw [h2 i hi, he _ (by omega)]
theorem HS.lt {w : World} {g n : Nat} {F : Nat → Nat} (h : HS w g n F) : g < w.heap.size := by
  obtain ⟨_, R, h1, _⟩ := h; exact Blk.lt h1
theorem HS.later {w w' : World} {g n : Nat} {F : Nat → Nat} (h : HS w g n F) (hb : Below w.heap.size w w') : HS w' g n F := by
  obtain ⟨h0, R, h1, h2, h3⟩ := h; exact ⟨h0, R, Blk.below h1 hb (Blk.lt h1), h2, h3⟩
theorem HS.own {w w' : World} {g b n : Nat} {F : Nat → Nat} (h : HS w g n F) (hO : Own b w w') (hn : g ≠ b) : HS w' g n F := by
  obtain ⟨h0, R, h1, h2, h3⟩ := h; exact ⟨h0, R, hO.blk h1 hn, h2, h3⟩
theorem build60 (H : Nat → Nat) (w : World) : (Instr.build 196 #[(0, .agg (rowW 8 H).toArray)]).run Tryd.prog w = .ok (.agg (hshC H (fun _ => 0) 0 0).toArray) w :=
  run_build w 196 _ _ (by kernel_rfl)
theorem exec_buildH {o : Oper} {a : Act} {w : World} {C : Array Value} {parts : Array (Nat × Operand)} {ps : Array (Nat × Value)} (ho : o.op = .build 196 parts) (hp : (parts.map fun (i, x) => (i, a.eval x)) = ps) (h : ∀ w, (Instr.build 196 ps).run Tryd.prog w = .ok (.agg C) w) : (execOp a.eval o).run Tryd.prog w = .ok (.value (.agg C)) w := by
  unfold execOp
  simp only [ho, hp, Sem.run_bind, h, Result.andThen_ok]
  rfl
theorem info60 (H R : Nat → Nat) (k n : Nat) : (Tryd.prog.info? 196).map (·.size) = some (hshC H R k n).toArray.size := by rw [hshC_size]; kernel_rfl
theorem one60 (H R : Nat → Nat) (k n : Nat) : (hshC H R k n).toArray.all (·.oneCell') = true := all_oneCell_toArray (hshC_one _ _ _ _)
def zero74 : Array Value := (hshC (fun _ => 0) (fun _ => 0) 0 0).toArray
theorem zero74_run (w : World) : (zeroValue 196).run Tryd.prog w = .ok (.agg zero74) w := by kernel_rfl
theorem GV.range {w : World} (h : GV w) : w.rangeAt 2 0 (rowW 8 hN) := fun j v hv => by
  have hj : j < 8 := by have := (List.getElem?_eq_some_iff.1 hv).1; rw [rowW_len] at this; exact this
  rw [rowW_get hN hj] at hv
  rw [Nat.zero_add, h.1 j hj]; exact hv
theorem info56l (v : Nat → Nat) : (Tryd.prog.info? 194).map (·.size) = some (rowW 8 v).length := by rw [rowW_len]; kernel_rfl
theorem info57l (v : Nat → Nat) : (Tryd.prog.info? 169).map (·.size) = some (rowC 64 v).length := by rw [rowC_len]; kernel_rfl
set_option maxRecDepth 100000 in
set_option maxHeartbeats 1000000 in
theorem hnew_any (w : World) (hg : GV w) :
    Calls Tryd.prog 117 #[] w fun e w' => ∃ g, e = .returned (.pointer (some ⟨g, 0, none⟩)) ∧ (∀ F, HS w' g 0 F) ∧ Below w.heap.size w w' ∧ w.heap.size ≤ g := by
  have hl := hg.lt
  obtain ⟨L, hL⟩ : ∃ L, rowW 8 hN = L := ⟨_, rfl⟩
  obtain ⟨C, hC⟩ : ∃ C, (hshC hN (fun _ => 0) 0 0).toArray = C := ⟨_, rfl⟩
  have HR : Hid (w.rangeAt 2 0 L) := Lib.hid (by rw [← hL]; exact hg.range)
  have HI : Hid ((Tryd.prog.info? 194).map (·.size) = some L.length) := Lib.hid (by rw [← hL]; exact info56l _)
  have HB : Hid (∀ w', (Instr.build 196 #[(0, .agg L.toArray)]).run Tryd.prog w' = .ok (.agg C) w') := Lib.hid fun w' => by rw [← hL, build60, hC]
  have HN : Hid (∀ F, HS (w.alloc (.cells C 196)) w.heap.size 0 F) := Lib.hid fun F => by
    refine ⟨⟨by omega, by omega⟩, fun _ => 0, ?_, fun i hi => ?_, fun i _ => by show 0 < _; decide⟩
    · rw [← hC]; exact Blk.new w _ _
    · rw [Nat.zero_mod] at hi; exact absurd hi (Nat.not_lt_zero _)
  clear hl hL hC hg
  go_enter Tryd.func117, Tryd.ntmps117
  go_wp2_with (first
    | (refine wpList_load_mid rfl 194 (.global 2) rfl 2 0 rfl L _ HR.out Tryd.underlying194 rfl HI.out ?_)
    | (refine wpList_value rfl (exec_buildH (parts := #[(0, .tmp 1)]) (ps := #[(0, .agg L.toArray)]) rfl (by simp; rfl) HB.out) ?_))
  go_ret
  exact ⟨_, rfl, HN.out, (Below.refl _ _).alloc (Nat.le_refl _) _, Nat.le_refl _⟩
set_option maxRecDepth 100000 in
set_option maxHeartbeats 1000000 in
theorem clone_nil (w : World) :
    Calls Tryd.prog 111 #[.pointer none] w fun e w' => e = .returned (.pointer none) ∧ w' = w := by
  go_enter Tryd.func111, Tryd.ntmps111
  go_wp2_with fail
  go_ret
  exact ⟨rfl, rfl⟩
set_option maxRecDepth 100000 in
set_option maxHeartbeats 1000000 in
theorem hclone_any (g n : Nat) (F : Nat → Nat) (w : World) (h : HS w g n F) (hg : GV w) :
    Calls Tryd.prog 111 #[.pointer (some ⟨g, 0, none⟩)] w fun e w' => ∃ g', e = .returned (.pointer (some ⟨g', 0, none⟩)) ∧ HS w' g' n F ∧ Below w.heap.size w w' ∧ w.heap.size ≤ g' := by
  have hl := hg.lt
  obtain ⟨_, R, hB, hR1, hR2⟩ := h
  have hz := zero74_run
  obtain ⟨wa, hwa⟩ : ∃ q, w.alloc (.cells zero74 196) = q := ⟨_, rfl⟩
  have hba : Below w.heap.size w wa := by rw [← hwa]; exact (Below.refl _ _).alloc (Nat.le_refl _) _
  have hA : HB wa w.heap.size (fun _ => 0) (fun _ => 0) 0 0 := by rw [← hwa]; exact Blk.new w _ _
  have hI := info60 (chK F (n / 64)) R (n % 64) n
  have hI1 := one60 (chK F (n / 64)) R (n % 64) n
  have hTH : wa.there w.heap.size 0 (hshC (chK F (n / 64)) R (n % 64) n).toArray.size := Blk.there hA (by rw [hshC_size, hshC_size]; exact Nat.le_refl _)
  have hN : HB (wa.setCells w.heap.size 0 (hshC (chK F (n / 64)) R (n % 64) n).toArray.toList) w.heap.size (chK F (n / 64)) R (n % 64) n := Blk.setCells hA (hshC _ _ _ _) (by rw [hshC_size, hshC_len])
  have hO : Below w.heap.size w (wa.setCells w.heap.size 0 (hshC (chK F (n / 64)) R (n % 64) n).toArray.toList) := hba.trans ((Own.setCells _ 0 wa).below (Nat.le_refl _) hba.size)
  obtain ⟨C, hC⟩ : ∃ C, (hshC (chK F (n / 64)) R (n % 64) n).toArray = C := ⟨_, rfl⟩
  have hNN : HS (wa.setCells w.heap.size 0 C.toList) w.heap.size n F := ⟨⟨by omega, by omega⟩, R, by rw [← hC]; exact hN, hR1, hR2⟩
  unfold HB at hB
  rw [hC] at hB hI hI1 hTH hO
  have HB1 := Lib.hid hB
  have HI := Lib.hid hI
  have HI1 := Lib.hid hI1
  have HTH := Lib.hid hTH
  have HO := Lib.hid hO
  have HN := Lib.hid hNN
  clear hl hB hI hI1 hTH hO hN hNN hA hba hC hR1 hR2 hg
  go_enter Tryd.func111, Tryd.ntmps111
  go_wp2_with (first
    | (refine wpList_load_row rfl 196 (.tmp 7) rfl g rfl 196 C (0, 0) _ HB1.out Tryd.underlying196 rfl HI.out ?_)
    | (refine wpList_store_mid rfl 196 (.tmp 3) (.tmp 8) rfl w.heap.size 0 C rfl rfl HTH.out HI.out HI1.out ?_))
  go_ret
  exact ⟨_, rfl, HN.out, HO.out, Nat.le_refl _⟩
end Go.Proofs.YtmabhjifldafaaaDoor
namespace Go.Proofs.YtmabhjifldafaaaDoor
set_option linter.unusedVariables false
set_option linter.unusedSimpArgs false
open Go.RowKit

/-- Behind p bytes of those that are written; how many were written is told ahead. -/
def WI (F : Nat → Nat) (g N p : Nat) (wr : World) : Prop := ∃ R, HB wr g (chK F (p / 64)) R (p % 64) N ∧ (∀ i, i < p % 64 → R i = F (64 * (p / 64) + i)) ∧ ∀ i, i < 64 → R i < 256
set_option maxRecDepth 100000 in
set_option maxHeartbeats 1000000 in
theorem write_nil (v : Value) (w : World) :
    Calls Tryd.prog 109 #[.pointer none, v] w fun e w' => e = .returned (.tuple #[]) ∧ w' = w := by
  go_enter Tryd.func109, Tryd.ntmps109
  go_wp2_with fail
  refine bodyPost_ret (v := .tuple #[]) (by simp [results, Tryd.results109, go_sem]) rfl ?_
  exact ⟨rfl, rfl⟩
set_option maxRecDepth 100000 in
set_option maxHeartbeats 8000000 in
theorem write_any (g n m cap : Nat) (oa : Option Addr) (F G : Nat → Nat) (w : World) (h : HS w g n F) (hb : Bytes w oa m G) (hmc : m ≤ cap) (hne : ∀ a, oa = some a → 0 < m → a.block ≠ g) (hn : n + m < 1000000000000) (hg : GV w) :
    Calls Tryd.prog 109 #[.pointer (some ⟨g, 0, none⟩), .slice oa m cap] w fun e w' => e = .returned (.tuple #[]) ∧ HS w' g (n + m) (catF n F G) ∧ Own g w w' := by
  obtain ⟨hg0, R, hB, hR1, hR2⟩ := h
  obtain ⟨FG, hFG⟩ : ∃ FG, catF n F G = FG := ⟨_, rfl⟩
  have hFl : ∀ i, i < n → F i = FG i := fun i hi => by rw [← hFG]; exact (if_pos hi).symm
  have HFH : Hid (∀ i, FG (n + i) = G i) := Lib.hid fun i => by rw [← hFG]; show (if n + i < n then F (n + i) else G (n + i - n)) = G i; rw [if_neg (by omega), Nat.add_sub_cancel_left]
  rw [chK_congr (n / 64) (fun i hi => hFl i (by omega))] at hB
  have hR1' : ∀ i, i < n % 64 → R i = FG (64 * (n / 64) + i) := fun i hi => (hR1 i hi).trans (hFl _ (by omega))
  obtain ⟨N, hN⟩ : ∃ N, n + m = N := ⟨_, rfl⟩
  have HNN : Hid (n + m = N ∧ N < 1000000000000) := Lib.hid ⟨hN, by omega⟩
  have c73 := hB.all
  have z73 : w.frozen? ⟨g, 73, none⟩ = false := Blk.free hB _
  have hw1 : IntKind.u64.wrap ((n : Int) + (m : Int)) = (N : Int) := by
    have : (n : Int) + (m : Int) = (N : Int) := by omega
    rw [this]; simp [IntKind.wrap, IntKind.bits, IntKind.signed]; omega
  have hw2 : IntKind.u64.wrap (m : Int) = (m : Int) := by simp [IntKind.wrap, IntKind.bits, IntKind.signed]; omega
  obtain ⟨wa, hwa⟩ : ∃ q, w.setCell ⟨g, 73, none⟩ (.int .u64 (N : Nat)) = q := ⟨_, rfl⟩
  have hO : Own g w wa := by rw [← hwa]; exact (Own.refl g w).set 73 _
  have HT : Hid (WI FG g N n wa) := Lib.hid ⟨R, by rw [← hwa]; exact hB.setn N, hR1', hR2⟩
  have HO := Lib.hid hO
  have HG0 := Lib.hid hg0
  have HG := Lib.hid hg
  have HBY : Hid (∀ w' j, j ≤ m → Own g w w' → Bytes w' oa (m - j) G → True) := Lib.hid fun _ _ _ _ _ => trivial
  have HB0 : Hid (Bytes wa oa m (fun i => G (0 + i))) := Lib.hid fun k hk => by
    obtain ⟨h1, b, off, h2, h3⟩ := hb k hk
    simp only [Nat.zero_add]
    exact ⟨h1, b, off, h2, hO.cell h3 (show b ≠ g from hne ⟨b, off, none⟩ h2 (by omega))⟩
  have HNE := Lib.hid hne
  have HMC := Lib.hid hmc
  have HGB : Hid (∀ i, i < m → G i < 256) := Lib.hid fun i hi => (hb i hi).1
  rw [hFG, hN]
  clear hFl hFG hR1 hR1' hR2 hB hg0 hg hb hne hmc hn HBY hO
  go_enter Tryd.func109, Tryd.ntmps109
  go_wp2_with fail
  clear c73 z73 hw1 hw2 hwa hN
  go_loopw [1] (fun v wr => ∃ (j c : Nat) (a : Option Addr), j ≤ m ∧ v = .slice a (m - j) c ∧ m - j ≤ c ∧ Bytes wr a (m - j) (fun i => G (j + i)) ∧ (∀ x, a = some x → 0 < m - j → x.block ≠ g) ∧ WI FG g N (n + j) wr ∧ Own g w wr) (fun v _ => lenV v)
  case atStart => exact ⟨0, cap, oa, Nat.zero_le _, rfl, HMC.out, HB0.out, HNE.out, HT.out, HO.out⟩
  case round =>
    clear HT HB0 HNE HMC HO
    obtain ⟨j, c, a, hj, rfl, hc, hby, hne, hW, hO⟩ := hrel
    have HO := Lib.hid hO
    have HNE := Lib.hid hne
    have HW := Lib.hid hW
    obtain ⟨l, hl⟩ : ∃ l, m - j = l := ⟨_, rfl⟩
    rw [hl] at hc hby ⊢
    by_cases hl0 : l = 0
    · subst hl0
      have HN : Hid (WI FG g N N wr) := Lib.hid (by have := HNN.out.1; rw [show n + j = N by omega] at hW; exact hW)
      clear hj hc hby hne hW hO hl HW HNE
      go_wp2_with fail
      refine bodyPost_end (v := .tuple #[]) (by simp [results, Tryd.results109, go_sem]) rfl ?_
      exact ⟨rfl, ⟨HG0.out, HN.out⟩, HO.out⟩
    · obtain ⟨_, b, off, rfl, _⟩ := hby 0 (by omega)
      have hbg : b ≠ g := hne _ rfl (by omega)
      obtain ⟨p, hp⟩ : ∃ p, n + j = p := ⟨_, rfl⟩
      rw [hp] at hW
      obtain ⟨R, hB, hR1, hR2⟩ := hW
      obtain ⟨k, hk⟩ : ∃ k, p % 64 = k := ⟨_, rfl⟩
      obtain ⟨q, hq⟩ : ∃ q, p / 64 = q := ⟨_, rfl⟩
      rw [hk, hq] at hB hR1
      have hk64 : k < 64 := by omega
      obtain ⟨d, hd⟩ : ∃ d, 64 = k + d := ⟨64 - k, by omega⟩
      obtain ⟨s, hs⟩ : ∃ s, Nat.min l d = s := ⟨_, rfl⟩
      have hs1 : 0 < s := by rw [← hs]; exact Nat.lt_min.2 ⟨by omega, by omega⟩
      have hs2 : s ≤ l := by rw [← hs]; exact Nat.min_le_left _ _
      have hs3 : s ≤ d := by rw [← hs]; exact Nat.min_le_right _ _
      have l0 : (0 : Int) < (l : Int) := by omega
      have k0 : (0 : Int) ≤ (k : Int) := by omega
      have k1 : (k : Int) ≤ 64 := by omega
      have d0 : (64 : Int) - (k : Int) = (d : Int) := by omega
      have d1 : 64 - k = d := by omega
      have hk6 : ¬ 64 = k := by omega
      have s0 : (0 : Int) ≤ (s : Int) := by omega
      have s1 : (s : Int) ≤ (l : Int) := by omega
      have sc : (s : Int) ≤ (c : Int) := by omega
      obtain ⟨u, hu⟩ : ∃ u, k + s = u := ⟨_, rfl⟩
      have w1 : IntKind.i64.wrap ((k : Int) + (s : Int)) = (u : Int) := wrs hu (by omega)
      have u1 : (k : Int) + (s : Int) = (u : Int) := by omega
      obtain ⟨R', hR'⟩ : ∃ R', cpy R (fun i => G (j + i)) k s = R' := ⟨_, rfl⟩
      have hc72 : wr.drew.cell? ⟨g, 72, none⟩ = some (.int .i64 (k : Nat)) := HB.held (w := wr.drew) hB
      obtain ⟨CS, hCS⟩ : ∃ L, rowC s (fun i => G (j + i)) = L := ⟨_, rfl⟩
      have HCL : Hid (CS.length = s) := Lib.hid (by rw [← hCS]; exact rowC_len _ _)
      have HCN : Hid (CS.length = Nat.min l d) := Lib.hid (by rw [HCL.out, hs])
      have HCO : Hid (∀ v ∈ CS, v.oneCell' = true) := Lib.hid (by rw [← hCS]; exact rowC_one _ _)
      have HCC : Hid (∀ i v, CS[i]? = some v → wr.drew.cell? ((⟨b, off, none⟩ : Addr).add i) = some v) := Lib.hid fun i v hv => by
        rw [← hCS] at hv
        have hi : i < s := by
          have := (List.getElem?_eq_some_iff.1 hv).1; rw [rowC_len] at this; exact this
        rw [rowC_get _ hi] at hv
        obtain ⟨_, b', off', e, hcell⟩ := hby i (by omega)
        cases e
        rw [Addr.add_mid]
        exact hcell.trans hv
      have HBD : Hid (Blk wr.drew g (hshC (chK FG q) R k N).toArray 196) := Lib.hid hB
      have HFIT : Hid (8 + k + CS.length ≤ (hshC (chK FG q) R k N).toArray.size) := Lib.hid (by rw [HCL.out, hshC_size]; omega)
      have HSPL : Hid ((splice (hshC (chK FG q) R k N) (8 + k) CS) = hshC (chK FG q) R' k N) := Lib.hid (by rw [← hCS, ← hR']; exact hshC_copy _ _ _ _ _ _ _ (by omega))
      have HR2' : Hid (∀ i, i < 64 → R' i < 256) := Lib.hid fun i hi => by
        rw [← hR']; unfold cpy
        split
        · exact HGB.out _ (by omega)
        · exact hR2 i hi
      have HR1' : Hid (∀ i, i < u → R' i = FG (64 * q + i)) := Lib.hid fun i hi => by
        rw [← hR']; unfold cpy
        by_cases e : k ≤ i ∧ i < k + s
        · rw [if_pos e]
          show G (j + (i - k)) = FG (64 * q + i)
          rw [← HFH.out]; congr 1; omega
        · rw [if_neg e]; exact hR1 i (by omega)
      have HBYN : Hid (∀ w', Own g wr w' → Bytes w' (some ⟨b, off + s, none⟩) (l - s) (fun i => G (j + s + i))) := Lib.hid fun w' hO' i hi => by
        obtain ⟨h1, b', off', e, hcell⟩ := hby (s + i) (by omega)
        cases e
        simp only [Nat.add_assoc]
        exact ⟨h1, b, off + s, rfl, by rw [Nat.add_assoc]; exact hO'.cell hcell hbg⟩
      have HNUM : Hid (p = 64 * q + k ∧ n + j = p ∧ m - j = l ∧ j ≤ m ∧ s ≤ l ∧ 0 < s ∧ k + s = u ∧ u ≤ 64 ∧ l ≤ c) := Lib.hid ⟨by omega, hp, hl, hj, hs2, hs1, hu, by omega, hc⟩
      have HBG := Lib.hid hbg
      have HOD : Hid (Own g w wr.drew) := Lib.hid hO.drew
      have HWD : Hid (Own g wr wr.drew) := Lib.hid ((Own.refl g wr).drew)
      clear hR' hCS hs hu hR1 hR2 hB hby hne hO hp hk hq hl hj hl0 HW HNE hc hd hbg
      go_wp2_with fail
      refine still_tail 9 (by kernel_rfl) (by kernel_rfl) ?_
      simp only [List.take_succ_cons, List.take_zero, List.drop_succ_cons, List.drop_zero]
      generalize wr.drew = W0 at *
      repeat still_step
      refine wpStill_nil ?_
      refine wpList_copy_own rfl (.tmp 27) (.tmp 28) 33 33 rfl 5 Tryd.underlying33 info_u8s g (8 + k) d d ⟨b, off, none⟩ l c rfl rfl (hshC (chK FG q) R k N).toArray 196 HBD.out CS HCN.out HCC.out HFIT.out HCO.out ?_
      show wpList _ _ _ _ _ (W0.setRow g (splice (hshC (chK FG q) R k N) (8 + k) CS).toArray)
      rw [HSPL.out, HCL.out]
      obtain ⟨w5, hw5⟩ : ∃ w5, W0.setRow g (hshC (chK FG q) R' k N).toArray = w5 := ⟨_, rfl⟩
      have H5 : HB w5 g (chK FG q) R' k N := by rw [← hw5]; exact Blk.setRow HBD.out _
      have O5 : Own g w w5 := by rw [← hw5]; exact HOD.out.trans (Own.setRow _ _)
      rw [hw5]
      obtain ⟨w6, hw6⟩ : ∃ w6, w5.setCell ⟨g, 72, none⟩ (.int .i64 (u : Nat)) = w6 := ⟨_, rfl⟩
      have H6 : HB w6 g (chK FG q) R' u N := by rw [← hw6]; exact H5.setk u
      have O6 : Own g w w6 := by rw [← hw6]; exact O5.set 72 _
      have OW : Own g wr w6 := by rw [← hw6, ← hw5]; exact (HWD.out.trans (Own.setRow _ _)).set 72 _
      have c72 := H5.held
      have z72 : w5.frozen? ⟨g, 72, none⟩ = false := Blk.free H5 _
      have e72 := H6.held
      have H6' := Lib.hid H6
      have O6' := Lib.hid O6
      clear H5 O5 H6 O6 hw5 HCN HCC HBD HFIT HSPL HCO HCL
      have OW := Lib.hid OW
      obtain ⟨L1, hL1⟩ : ∃ L, rowW 8 (chK FG q) = L := ⟨_, rfl⟩
      obtain ⟨L2, hL2⟩ : ∃ L, rowC 64 R' = L := ⟨_, rfl⟩
      clear HOD HWD HO
      have hsp : 0 < s := HNUM.out.2.2.2.2.2.1
      by_cases hcs : c = s
      · have hls : l = s := by have := HNUM.out; omega
        have HLS := Lib.hid hls
        clear hls
        by_cases hu : u = 64
        · subst hu
          have hw6 : w5.setCell ⟨g, 72, none⟩ (.int .i64 64) = w6 := hw6
          have w1 : IntKind.i64.wrap ((k : Int) + (s : Int)) = 64 := w1
          have u1 : (k : Int) + (s : Int) = 64 := u1
          have HRW : Hid (w6.drew.rangeAt g 0 L1) := Lib.hid (hL1 ▸ HB.rangeW (w := w6.drew) H6'.out)
          have HRR : Hid (w6.drew.rangeAt g 8 L2) := Lib.hid (hL2 ▸ HB.rangeR (w := w6.drew) H6'.out)
          have H6D : Hid (HB w6.drew g (chK FG q) R' 64 N) := Lib.hid H6'.out
          have O6D : Hid (Own g w w6.drew) := Lib.hid O6'.out.drew
          have OWD : Hid (Own g wr w6.drew) := Lib.hid OW.out.drew
          have HI1 : Hid ((Tryd.prog.info? 194).map (·.size) = some L1.length) := Lib.hid (hL1 ▸ info56l _)
          have HI2 : Hid ((Tryd.prog.info? 169).map (·.size) = some L2.length) := Lib.hid (hL2 ▸ info57l _)
          have HMX : Hid (∀ w', GV w' → Calls Tryd.prog 118 #[.agg L1.toArray, .agg L2.toArray] w' fun e w'' => e = .returned (.agg (rowW 8 (chK FG (q + 1))).toArray) ∧ Below w'.heap.size w' w'') := Lib.hid fun w' h => by
            have e : chK FG (q + 1) = mixN (chK FG q) R' := by
              show mixN (chK FG q) _ = _
              exact mixN_congr fun i hi => (HR1'.out i hi).symm
            rw [e, ← hL1, ← hL2]; exact mixed_any _ _ w' (fun j _ => chK_lt _ _ _) HR2'.out h
          have HLL := Lib.hid hL1
          clear hL1 hL2 OW O6' H6'
          go_wp2_with fail
          obtain ⟨CM, hCM⟩ : ∃ C, (rowW 8 (chK FG (q + 1))).toArray = C := ⟨_, rfl⟩
          have HJ1 : Hid ((Tryd.prog.info? 194).map (·.size) = some CM.size) := Lib.hid (hCM ▸ info56 (chK FG (q + 1)))
          have HJ2 : Hid (CM.all (·.oneCell') = true) := Lib.hid (hCM ▸ one8w (chK FG (q + 1)))
          rw [hCM] at HMX
          refine wp_region_held_drew (S := (fun _ => True)) (by kernel_rfl) ?_ (fun hHeld => ?_)
          · (try dsimp only)
            all_goals (first | trivial | assumption)
          generalize w6.drew = W7 at *
          refine wpAnyH_take (i := 0) (oi := { dst := some 46, op := Go.Op.move (Go.Operand.tmp 0), type := 171, pos := "sha.go:89", after := #[], guard := none }) (v := ?_) rfl (by kernel_rfl) (by kernel_rfl) (by kernel_rfl) (fun _ _ _ h => h) (Or.inl ⟨by rfl, ?_⟩) (by assumption) ?_
          rotate_left
          · intro wS hSw
            (try dsimp only at hSw)
            go_simp
            (try with_reducible rfl)
          (try simp only [Act.put, List.setIfInBounds_toArray, List.set_cons_zero, List.set_cons_succ])
          refine wpAnyH_take (i := 1) (oi := { dst := some 47, op := Go.Op.move (Go.Operand.tmp 0), type := 171, pos := "sha.go:89", after := #[], guard := none }) (v := ?_) rfl (by kernel_rfl) (by kernel_rfl) (by kernel_rfl) (fun _ _ _ h => h) (Or.inl ⟨by rfl, ?_⟩) (by assumption) ?_
          rotate_left
          · intro wS hSw
            (try dsimp only at hSw)
            go_simp
            (try with_reducible rfl)
          (try simp only [Act.put, List.setIfInBounds_toArray, List.set_cons_zero, List.set_cons_succ])
          refine wpAnyH_take (i := 2) (oi := { dst := some 48, op := Go.Op.nilCheck (Go.Operand.tmp 47), type := 0, pos := "sha.go:89", after := #[{ on := 1, ground := Go.Ground.data }], guard := none }) (v := ?_) rfl (by kernel_rfl) (by kernel_rfl) (by kernel_rfl) (fun _ _ _ h => h) (Or.inl ⟨by rfl, ?_⟩) (by assumption) ?_
          rotate_left
          · intro wS hSw
            (try dsimp only at hSw)
            go_simp
            (try with_reducible rfl)
          (try simp only [Act.put, List.setIfInBounds_toArray, List.set_cons_zero, List.set_cons_succ])
          refine wpAnyH_take (i := 3) (oi := { dst := some 49, op := Go.Op.fieldAddr 196 (Go.Operand.tmp 48) 0, type := 0, pos := "sha.go:89", after := #[{ on := 2, ground := Go.Ground.data }], guard := none }) (v := ?_) rfl (by kernel_rfl) (by kernel_rfl) (by kernel_rfl) (fun _ _ _ h => h) (Or.inl ⟨by rfl, ?_⟩) (by assumption) ?_
          rotate_left
          · intro wS hSw
            (try dsimp only at hSw)
            go_simp
            (try with_reducible rfl)
          (try simp only [Act.put, List.setIfInBounds_toArray, List.set_cons_zero, List.set_cons_succ])
          refine wpAnyH_take (i := 5) (oi := { dst := some 51, op := Go.Op.move (Go.Operand.tmp 0), type := 171, pos := "sha.go:89", after := #[], guard := none }) (v := ?_) rfl (by kernel_rfl) (by kernel_rfl) (by kernel_rfl) (fun _ _ _ h => h) (Or.inl ⟨by rfl, ?_⟩) (by assumption) ?_
          rotate_left
          · intro wS hSw
            (try dsimp only at hSw)
            go_simp
            (try with_reducible rfl)
          (try simp only [Act.put, List.setIfInBounds_toArray, List.set_cons_zero, List.set_cons_succ])
          refine wpAnyH_take (i := 6) (oi := { dst := some 52, op := Go.Op.nilCheck (Go.Operand.tmp 51), type := 0, pos := "sha.go:89", after := #[{ on := 5, ground := Go.Ground.data }], guard := none }) (v := ?_) rfl (by kernel_rfl) (by kernel_rfl) (by kernel_rfl) (fun _ _ _ h => h) (Or.inl ⟨by rfl, ?_⟩) (by assumption) ?_
          rotate_left
          · intro wS hSw
            (try dsimp only at hSw)
            go_simp
            (try with_reducible rfl)
          (try simp only [Act.put, List.setIfInBounds_toArray, List.set_cons_zero, List.set_cons_succ])
          refine wpAnyH_take (i := 7) (oi := { dst := some 53, op := Go.Op.fieldAddr 196 (Go.Operand.tmp 52) 1, type := 0, pos := "sha.go:89", after := #[{ on := 6, ground := Go.Ground.data }], guard := none }) (v := ?_) rfl (by kernel_rfl) (by kernel_rfl) (by kernel_rfl) (fun _ _ _ h => h) (Or.inl ⟨by rfl, ?_⟩) (by assumption) ?_
          rotate_left
          · intro wS hSw
            (try dsimp only at hSw)
            go_simp
            (try with_reducible rfl)
          (try simp only [Act.put, List.setIfInBounds_toArray, List.set_cons_zero, List.set_cons_succ])
          refine wpAnyH_ready (rs := [4, 8]) (by kernel_rfl) (by simp) ?_
          refine AllReadyH.cons (o := { dst := some 50, op := Go.Op.load 194 (Go.Operand.tmp 49), type := 194, pos := "sha.go:89", after := #[{ on := 3, ground := Go.Ground.data }], guard := none }) rfl (fun K hK => ?_) ?_
          · skip
            (refine step_loadM rfl 194 (.tmp 49) rfl g 0 rfl L1 _ HRW.out Tryd.underlying194 rfl HI1.out ?_; skip)
            refine hK.out _ _ ?_ (fun hHeld => ?_)
            · (try dsimp only)
              all_goals (first | trivial | assumption)
            clear hK K
            (try simp only [Act.put, List.setIfInBounds_toArray, List.set_cons_zero, List.set_cons_succ])
            refine wpAnyH_ready (rs := [8]) (by kernel_rfl) (by simp) ?_
            refine AllReadyH.cons (o := { dst := some 54, op := Go.Op.load 169 (Go.Operand.tmp 53), type := 169, pos := "sha.go:89", after := #[{ on := 7, ground := Go.Ground.data }], guard := none }) rfl (fun K hK => ?_) AllReadyH.nil
            (refine step_loadM rfl 169 (.tmp 53) rfl g 8 rfl L2 _ HRR.out Tryd.underlying169 rfl HI2.out ?_; skip)
            refine hK.out _ _ ?_ (fun hHeld => ?_)
            · (try dsimp only)
              all_goals (first | trivial | assumption)
            clear hK K
            (try simp only [Act.put, List.setIfInBounds_toArray, List.set_cons_zero, List.set_cons_succ])
            refine wpAnyH_ready (rs := [9]) (by kernel_rfl) (by simp) ?_
            refine AllReadyH.cons (o := { dst := some 55, op := Go.Op.call { callee := Go.Callee.value (Go.Operand.func 118), args := #[Go.Operand.tmp 50, Go.Operand.tmp 54], argTypes := #[194, 169] }, type := 194, pos := "sha.go:89", after := #[{ on := 4, ground := Go.Ground.data }, { on := 8, ground := Go.Ground.data }], guard := none }) rfl (fun K hK => ?_) AllReadyH.nil
            go_simp
            (refine (HMX.out _ (HG.out.own O6D.out HG0.out.1 HG0.out.2)).mono ?_; rintro e v_1 ⟨rfl, hb8⟩; have H8 : Hid (HB v_1 g (chK FG q) R' 64 N) := Lib.hid (Blk.below H6D.out hb8 (Blk.lt H6D.out)); have O8 : Hid (Own g w v_1) := Lib.hid (O6D.out.trans (Own.of_below hb8)); have OW8 : Hid (Own g wr v_1) := Lib.hid (OWD.out.trans (Own.of_below hb8)); have HTH : Hid (v_1.there g 0 CM.size) := Lib.hid (hCM ▸ there_mid H8.out (by rw [rowW_size, hshC_len]; decide)); clear hb8; skip)
            (try go_wp2_with fail)
            refine hK.out _ _ ?_ (fun hHeld => ?_)
            · (try dsimp only)
              all_goals (first | trivial | assumption)
            clear hK K
            (try simp only [Act.put, List.setIfInBounds_toArray, List.set_cons_zero, List.set_cons_succ])
            refine wpAnyH_take (i := 10) (oi := { dst := some 56, op := Go.Op.nilCheck (Go.Operand.tmp 46), type := 0, pos := "sha.go:89", after := #[{ on := 0, ground := Go.Ground.data }, { on := 0, ground := Go.Ground.phase }, { on := 1, ground := Go.Ground.phase }, { on := 2, ground := Go.Ground.phase }, { on := 3, ground := Go.Ground.phase }, { on := 4, ground := Go.Ground.phase }, { on := 5, ground := Go.Ground.phase }, { on := 6, ground := Go.Ground.phase }, { on := 7, ground := Go.Ground.phase }, { on := 8, ground := Go.Ground.phase }, { on := 9, ground := Go.Ground.phase }], guard := none }) (v := ?_) rfl (by kernel_rfl) (by kernel_rfl) (by kernel_rfl) (fun _ _ _ h => h) (Or.inl ⟨by rfl, ?_⟩) (by assumption) ?_
            rotate_left
            · intro wS hSw
              (try dsimp only at hSw)
              go_simp
              (try with_reducible rfl)
            (try simp only [Act.put, List.setIfInBounds_toArray, List.set_cons_zero, List.set_cons_succ])
            refine wpAnyH_take (i := 11) (oi := { dst := some 57, op := Go.Op.fieldAddr 196 (Go.Operand.tmp 56) 0, type := 0, pos := "sha.go:89", after := #[{ on := 10, ground := Go.Ground.data }, { on := 0, ground := Go.Ground.phase }, { on := 1, ground := Go.Ground.phase }, { on := 2, ground := Go.Ground.phase }, { on := 3, ground := Go.Ground.phase }, { on := 4, ground := Go.Ground.phase }, { on := 5, ground := Go.Ground.phase }, { on := 6, ground := Go.Ground.phase }, { on := 7, ground := Go.Ground.phase }, { on := 8, ground := Go.Ground.phase }, { on := 9, ground := Go.Ground.phase }], guard := none }) (v := ?_) rfl (by kernel_rfl) (by kernel_rfl) (by kernel_rfl) (fun _ _ _ h => h) (Or.inl ⟨by rfl, ?_⟩) (by assumption) ?_
            rotate_left
            · intro wS hSw
              (try dsimp only at hSw)
              go_simp
              (try with_reducible rfl)
            (try simp only [Act.put, List.setIfInBounds_toArray, List.set_cons_zero, List.set_cons_succ])
            refine wpAnyH_ready (rs := [12]) (by kernel_rfl) (by simp) ?_
            refine AllReadyH.cons (o := { dst := none, op := Go.Op.store 194 (Go.Operand.tmp 57) (Go.Operand.tmp 55), type := 0, pos := "sha.go:89", after := #[{ on := 11, ground := Go.Ground.data }, { on := 9, ground := Go.Ground.data }, { on := 9, ground := Go.Ground.chain }, { on := 0, ground := Go.Ground.phase }, { on := 1, ground := Go.Ground.phase }, { on := 2, ground := Go.Ground.phase }, { on := 3, ground := Go.Ground.phase }, { on := 4, ground := Go.Ground.phase }, { on := 5, ground := Go.Ground.phase }, { on := 6, ground := Go.Ground.phase }, { on := 7, ground := Go.Ground.phase }, { on := 8, ground := Go.Ground.phase }, { on := 9, ground := Go.Ground.phase }], guard := none }) rfl (fun K hK => ?_) AllReadyH.nil
            (refine step_storeM rfl 194 (.tmp 57) (.tmp 55) rfl g 0 CM rfl rfl HTH.out HJ1.out HJ2.out ?_; obtain ⟨w9, hw9⟩ : ∃ q', v_1.setCells g 0 CM.toList = q' := ⟨_, rfl⟩; rw [hw9]; skip)
            refine hK.out _ _ ?_ (fun hHeld => ?_)
            · (try dsimp only)
              all_goals (first | trivial | assumption)
            clear hK K
            (try simp only [Act.put, List.setIfInBounds_toArray, List.set_cons_zero, List.set_cons_succ])
            refine wpAnyH_done (by kernel_rfl) ?_ _
            have H9 : HB w9 g (chK FG (q + 1)) R' 64 N := by rw [← hw9, ← hCM]; exact H8.out.words _
            have O9 : Own g w w9 := by rw [← hw9]; exact O8.out.trans (Own.setCells _ _ _)
            have OW9 : Own g wr w9 := by rw [← hw9]; exact OW8.out.trans (Own.setCells _ _ _)
            have c9 := H9.held
            have z9 : w9.frozen? ⟨g, 72, none⟩ = false := Blk.free H9 _
            obtain ⟨w10, hw10⟩ : ∃ q, w9.setCell ⟨g, 72, none⟩ (.int .i64 0) = q := ⟨_, rfl⟩
            have HX : Hid (WI FG g N (n + (j + s)) w10) := Lib.hid (by
              have h1 := HNUM.out
              refine ⟨R', ?_, fun i hi => ?_, HR2'.out⟩
              · rw [show (n + (j + s)) / 64 = q + 1 by omega, show (n + (j + s)) % 64 = 0 by omega, ← hw10]; exact H9.setk 0
              · rw [show (n + (j + s)) % 64 = 0 by omega] at hi; exact absurd hi (Nat.not_lt_zero _))
            have O10 : Hid (Own g w w10) := Lib.hid (by rw [← hw10]; exact O9.set 72 _)
            have hO : Own g wr w10 := by rw [← hw10]; exact OW9.set 72 _
            have HBF : Hid (Bytes w10 (some ⟨b, off, none⟩) (m - (j + s)) (fun i => G (j + s + i))) := Lib.hid (fun i hi => absurd hi (by have := HNUM.out; omega))
            clear H8 O8 OW8 H9 O9 OW9 hO HRW HRR H6D O6D OWD HMX HBYN hw9 hCM HTH
            go_wp2_with fail
            clear hw10 c9 z9
            have HNE' : Hid (∀ x, some (⟨b, off, none⟩ : Addr) = some x → 0 < m - (j + s) → x.block ≠ g) := Lib.hid fun x hx _ => by cases hx; exact HBG.out
            go_roundw
            case rel => exact ⟨j + s, _, some ⟨b, off, none⟩, by have := HNUM.out; omega, (by have h9 : m - (j + s) = l - s := (by have := HNUM.out; omega); first | (rw [h9]; done) | (rw [h9]; congr 1; omega)), by have := HNUM.out; omega, HBF.out, HNE'.out, HX.out, O10.out⟩
            case measure => simp [lenV]; omega
          refine AllReadyH.cons (o := { dst := some 54, op := Go.Op.load 169 (Go.Operand.tmp 53), type := 169, pos := "sha.go:89", after := #[{ on := 7, ground := Go.Ground.data }], guard := none }) rfl (fun K hK => ?_) AllReadyH.nil
          (refine step_loadM rfl 169 (.tmp 53) rfl g 8 rfl L2 _ HRR.out Tryd.underlying169 rfl HI2.out ?_; skip)
          refine hK.out _ _ ?_ (fun hHeld => ?_)
          · (try dsimp only)
            all_goals (first | trivial | assumption)
          clear hK K
          (try simp only [Act.put, List.setIfInBounds_toArray, List.set_cons_zero, List.set_cons_succ])
          refine wpAnyH_ready (rs := [4]) (by kernel_rfl) (by simp) ?_
          refine AllReadyH.cons (o := { dst := some 50, op := Go.Op.load 194 (Go.Operand.tmp 49), type := 194, pos := "sha.go:89", after := #[{ on := 3, ground := Go.Ground.data }], guard := none }) rfl (fun K hK => ?_) AllReadyH.nil
          (refine step_loadM rfl 194 (.tmp 49) rfl g 0 rfl L1 _ HRW.out Tryd.underlying194 rfl HI1.out ?_; skip)
          refine hK.out _ _ ?_ (fun hHeld => ?_)
          · (try dsimp only)
            all_goals (first | trivial | assumption)
          clear hK K
          (try simp only [Act.put, List.setIfInBounds_toArray, List.set_cons_zero, List.set_cons_succ])
          refine wpAnyH_ready (rs := [9]) (by kernel_rfl) (by simp) ?_
          refine AllReadyH.cons (o := { dst := some 55, op := Go.Op.call { callee := Go.Callee.value (Go.Operand.func 118), args := #[Go.Operand.tmp 50, Go.Operand.tmp 54], argTypes := #[194, 169] }, type := 194, pos := "sha.go:89", after := #[{ on := 4, ground := Go.Ground.data }, { on := 8, ground := Go.Ground.data }], guard := none }) rfl (fun K hK => ?_) AllReadyH.nil
          go_simp
          (refine (HMX.out _ (HG.out.own O6D.out HG0.out.1 HG0.out.2)).mono ?_; rintro e v_3 ⟨rfl, hb8⟩; have H8 : Hid (HB v_3 g (chK FG q) R' 64 N) := Lib.hid (Blk.below H6D.out hb8 (Blk.lt H6D.out)); have O8 : Hid (Own g w v_3) := Lib.hid (O6D.out.trans (Own.of_below hb8)); have OW8 : Hid (Own g wr v_3) := Lib.hid (OWD.out.trans (Own.of_below hb8)); have HTH : Hid (v_3.there g 0 CM.size) := Lib.hid (hCM ▸ there_mid H8.out (by rw [rowW_size, hshC_len]; decide)); clear hb8; skip)
          (try go_wp2_with fail)
          refine hK.out _ _ ?_ (fun hHeld => ?_)
          · (try dsimp only)
            all_goals (first | trivial | assumption)
          clear hK K
          (try simp only [Act.put, List.setIfInBounds_toArray, List.set_cons_zero, List.set_cons_succ])
          refine wpAnyH_take (i := 10) (oi := { dst := some 56, op := Go.Op.nilCheck (Go.Operand.tmp 46), type := 0, pos := "sha.go:89", after := #[{ on := 0, ground := Go.Ground.data }, { on := 0, ground := Go.Ground.phase }, { on := 1, ground := Go.Ground.phase }, { on := 2, ground := Go.Ground.phase }, { on := 3, ground := Go.Ground.phase }, { on := 4, ground := Go.Ground.phase }, { on := 5, ground := Go.Ground.phase }, { on := 6, ground := Go.Ground.phase }, { on := 7, ground := Go.Ground.phase }, { on := 8, ground := Go.Ground.phase }, { on := 9, ground := Go.Ground.phase }], guard := none }) (v := ?_) rfl (by kernel_rfl) (by kernel_rfl) (by kernel_rfl) (fun _ _ _ h => h) (Or.inl ⟨by rfl, ?_⟩) (by assumption) ?_
          rotate_left
          · intro wS hSw
            (try dsimp only at hSw)
            go_simp
            (try with_reducible rfl)
          (try simp only [Act.put, List.setIfInBounds_toArray, List.set_cons_zero, List.set_cons_succ])
          refine wpAnyH_take (i := 11) (oi := { dst := some 57, op := Go.Op.fieldAddr 196 (Go.Operand.tmp 56) 0, type := 0, pos := "sha.go:89", after := #[{ on := 10, ground := Go.Ground.data }, { on := 0, ground := Go.Ground.phase }, { on := 1, ground := Go.Ground.phase }, { on := 2, ground := Go.Ground.phase }, { on := 3, ground := Go.Ground.phase }, { on := 4, ground := Go.Ground.phase }, { on := 5, ground := Go.Ground.phase }, { on := 6, ground := Go.Ground.phase }, { on := 7, ground := Go.Ground.phase }, { on := 8, ground := Go.Ground.phase }, { on := 9, ground := Go.Ground.phase }], guard := none }) (v := ?_) rfl (by kernel_rfl) (by kernel_rfl) (by kernel_rfl) (fun _ _ _ h => h) (Or.inl ⟨by rfl, ?_⟩) (by assumption) ?_
          rotate_left
          · intro wS hSw
            (try dsimp only at hSw)
            go_simp
            (try with_reducible rfl)
          (try simp only [Act.put, List.setIfInBounds_toArray, List.set_cons_zero, List.set_cons_succ])
          refine wpAnyH_ready (rs := [12]) (by kernel_rfl) (by simp) ?_
          refine AllReadyH.cons (o := { dst := none, op := Go.Op.store 194 (Go.Operand.tmp 57) (Go.Operand.tmp 55), type := 0, pos := "sha.go:89", after := #[{ on := 11, ground := Go.Ground.data }, { on := 9, ground := Go.Ground.data }, { on := 9, ground := Go.Ground.chain }, { on := 0, ground := Go.Ground.phase }, { on := 1, ground := Go.Ground.phase }, { on := 2, ground := Go.Ground.phase }, { on := 3, ground := Go.Ground.phase }, { on := 4, ground := Go.Ground.phase }, { on := 5, ground := Go.Ground.phase }, { on := 6, ground := Go.Ground.phase }, { on := 7, ground := Go.Ground.phase }, { on := 8, ground := Go.Ground.phase }, { on := 9, ground := Go.Ground.phase }], guard := none }) rfl (fun K hK => ?_) AllReadyH.nil
          (refine step_storeM rfl 194 (.tmp 57) (.tmp 55) rfl g 0 CM rfl rfl HTH.out HJ1.out HJ2.out ?_; obtain ⟨w9, hw9⟩ : ∃ q', v_3.setCells g 0 CM.toList = q' := ⟨_, rfl⟩; rw [hw9]; skip)
          refine hK.out _ _ ?_ (fun hHeld => ?_)
          · (try dsimp only)
            all_goals (first | trivial | assumption)
          clear hK K
          (try simp only [Act.put, List.setIfInBounds_toArray, List.set_cons_zero, List.set_cons_succ])
          refine wpAnyH_done (by kernel_rfl) ?_ _
          have H9 : HB w9 g (chK FG (q + 1)) R' 64 N := by rw [← hw9, ← hCM]; exact H8.out.words _
          have O9 : Own g w w9 := by rw [← hw9]; exact O8.out.trans (Own.setCells _ _ _)
          have OW9 : Own g wr w9 := by rw [← hw9]; exact OW8.out.trans (Own.setCells _ _ _)
          have c9 := H9.held
          have z9 : w9.frozen? ⟨g, 72, none⟩ = false := Blk.free H9 _
          obtain ⟨w10, hw10⟩ : ∃ q, w9.setCell ⟨g, 72, none⟩ (.int .i64 0) = q := ⟨_, rfl⟩
          have HX : Hid (WI FG g N (n + (j + s)) w10) := Lib.hid (by
            have h1 := HNUM.out
            refine ⟨R', ?_, fun i hi => ?_, HR2'.out⟩
            · rw [show (n + (j + s)) / 64 = q + 1 by omega, show (n + (j + s)) % 64 = 0 by omega, ← hw10]; exact H9.setk 0
            · rw [show (n + (j + s)) % 64 = 0 by omega] at hi; exact absurd hi (Nat.not_lt_zero _))
          have O10 : Hid (Own g w w10) := Lib.hid (by rw [← hw10]; exact O9.set 72 _)
          have hO : Own g wr w10 := by rw [← hw10]; exact OW9.set 72 _
          have HBF : Hid (Bytes w10 (some ⟨b, off, none⟩) (m - (j + s)) (fun i => G (j + s + i))) := Lib.hid (fun i hi => absurd hi (by have := HNUM.out; omega))
          clear H8 O8 OW8 H9 O9 OW9 hO HRW HRR H6D O6D OWD HMX HBYN hw9 hCM HTH
          go_wp2_with fail
          clear hw10 c9 z9
          have HNE' : Hid (∀ x, some (⟨b, off, none⟩ : Addr) = some x → 0 < m - (j + s) → x.block ≠ g) := Lib.hid fun x hx _ => by cases hx; exact HBG.out
          go_roundw
          case rel => exact ⟨j + s, _, some ⟨b, off, none⟩, by have := HNUM.out; omega, (by have h9 : m - (j + s) = l - s := (by have := HNUM.out; omega); first | (rw [h9]; done) | (rw [h9]; congr 1; omega)), by have := HNUM.out; omega, HBF.out, HNE'.out, HX.out, O10.out⟩
          case measure => simp [lenV]; omega
        · have hu' : ¬ (u : Int) = 64 := by omega
          have HU : Hid (u ≠ 64) := Lib.hid hu
          have hO := OW.out
          have HBF : Hid (Bytes w6 (some ⟨b, off, none⟩) (m - (j + s)) (fun i => G (j + s + i))) := Lib.hid (fun i hi => absurd hi (by have := HNUM.out; omega))
          clear hu hO OW HBYN hL1 hL2
          go_wp2_with fail
          have HX : Hid (WI FG g N (n + (j + s)) w6) := Lib.hid (by
            have h1 := HNUM.out
            have h2 := HU.out
            refine ⟨R', ?_, fun i hi => ?_, HR2'.out⟩
            · rw [show (n + (j + s)) / 64 = q by omega, show (n + (j + s)) % 64 = u by omega]; exact H6'.out
            · rw [show (n + (j + s)) / 64 = q by omega]; exact HR1'.out i (by omega))
          have HNE' : Hid (∀ x, some (⟨b, off, none⟩ : Addr) = some x → 0 < m - (j + s) → x.block ≠ g) := Lib.hid fun x hx _ => by cases hx; exact HBG.out
          go_roundw
          case rel => exact ⟨j + s, _, some ⟨b, off, none⟩, by have := HNUM.out; omega, (by have h9 : m - (j + s) = l - s := (by have := HNUM.out; omega); first | (rw [h9]; done) | (rw [h9]; congr 1; omega)), by have := HNUM.out; omega, HBF.out, HNE'.out, HX.out, O6'.out⟩
          case measure => simp [lenV]; omega
      · skip
        by_cases hu : u = 64
        · subst hu
          have hw6 : w5.setCell ⟨g, 72, none⟩ (.int .i64 64) = w6 := hw6
          have w1 : IntKind.i64.wrap ((k : Int) + (s : Int)) = 64 := w1
          have u1 : (k : Int) + (s : Int) = 64 := u1
          have HRW : Hid (w6.drew.rangeAt g 0 L1) := Lib.hid (hL1 ▸ HB.rangeW (w := w6.drew) H6'.out)
          have HRR : Hid (w6.drew.rangeAt g 8 L2) := Lib.hid (hL2 ▸ HB.rangeR (w := w6.drew) H6'.out)
          have H6D : Hid (HB w6.drew g (chK FG q) R' 64 N) := Lib.hid H6'.out
          have O6D : Hid (Own g w w6.drew) := Lib.hid O6'.out.drew
          have OWD : Hid (Own g wr w6.drew) := Lib.hid OW.out.drew
          have HI1 : Hid ((Tryd.prog.info? 194).map (·.size) = some L1.length) := Lib.hid (hL1 ▸ info56l _)
          have HI2 : Hid ((Tryd.prog.info? 169).map (·.size) = some L2.length) := Lib.hid (hL2 ▸ info57l _)
          have HMX : Hid (∀ w', GV w' → Calls Tryd.prog 118 #[.agg L1.toArray, .agg L2.toArray] w' fun e w'' => e = .returned (.agg (rowW 8 (chK FG (q + 1))).toArray) ∧ Below w'.heap.size w' w'') := Lib.hid fun w' h => by
            have e : chK FG (q + 1) = mixN (chK FG q) R' := by
              show mixN (chK FG q) _ = _
              exact mixN_congr fun i hi => (HR1'.out i hi).symm
            rw [e, ← hL1, ← hL2]; exact mixed_any _ _ w' (fun j _ => chK_lt _ _ _) HR2'.out h
          have HLL := Lib.hid hL1
          clear hL1 hL2 OW O6' H6'
          go_wp2_with fail
          obtain ⟨CM, hCM⟩ : ∃ C, (rowW 8 (chK FG (q + 1))).toArray = C := ⟨_, rfl⟩
          have HJ1 : Hid ((Tryd.prog.info? 194).map (·.size) = some CM.size) := Lib.hid (hCM ▸ info56 (chK FG (q + 1)))
          have HJ2 : Hid (CM.all (·.oneCell') = true) := Lib.hid (hCM ▸ one8w (chK FG (q + 1)))
          rw [hCM] at HMX
          refine wp_region_held_drew (S := (fun _ => True)) (by kernel_rfl) ?_ (fun hHeld => ?_)
          · (try dsimp only)
            all_goals (first | trivial | assumption)
          generalize w6.drew = W7 at *
          refine wpAnyH_take (i := 0) (oi := { dst := some 46, op := Go.Op.move (Go.Operand.tmp 0), type := 171, pos := "sha.go:89", after := #[], guard := none }) (v := ?_) rfl (by kernel_rfl) (by kernel_rfl) (by kernel_rfl) (fun _ _ _ h => h) (Or.inl ⟨by rfl, ?_⟩) (by assumption) ?_
          rotate_left
          · intro wS hSw
            (try dsimp only at hSw)
            go_simp
            (try with_reducible rfl)
          (try simp only [Act.put, List.setIfInBounds_toArray, List.set_cons_zero, List.set_cons_succ])
          refine wpAnyH_take (i := 1) (oi := { dst := some 47, op := Go.Op.move (Go.Operand.tmp 0), type := 171, pos := "sha.go:89", after := #[], guard := none }) (v := ?_) rfl (by kernel_rfl) (by kernel_rfl) (by kernel_rfl) (fun _ _ _ h => h) (Or.inl ⟨by rfl, ?_⟩) (by assumption) ?_
          rotate_left
          · intro wS hSw
            (try dsimp only at hSw)
            go_simp
            (try with_reducible rfl)
          (try simp only [Act.put, List.setIfInBounds_toArray, List.set_cons_zero, List.set_cons_succ])
          refine wpAnyH_take (i := 2) (oi := { dst := some 48, op := Go.Op.nilCheck (Go.Operand.tmp 47), type := 0, pos := "sha.go:89", after := #[{ on := 1, ground := Go.Ground.data }], guard := none }) (v := ?_) rfl (by kernel_rfl) (by kernel_rfl) (by kernel_rfl) (fun _ _ _ h => h) (Or.inl ⟨by rfl, ?_⟩) (by assumption) ?_
          rotate_left
          · intro wS hSw
            (try dsimp only at hSw)
            go_simp
            (try with_reducible rfl)
          (try simp only [Act.put, List.setIfInBounds_toArray, List.set_cons_zero, List.set_cons_succ])
          refine wpAnyH_take (i := 3) (oi := { dst := some 49, op := Go.Op.fieldAddr 196 (Go.Operand.tmp 48) 0, type := 0, pos := "sha.go:89", after := #[{ on := 2, ground := Go.Ground.data }], guard := none }) (v := ?_) rfl (by kernel_rfl) (by kernel_rfl) (by kernel_rfl) (fun _ _ _ h => h) (Or.inl ⟨by rfl, ?_⟩) (by assumption) ?_
          rotate_left
          · intro wS hSw
            (try dsimp only at hSw)
            go_simp
            (try with_reducible rfl)
          (try simp only [Act.put, List.setIfInBounds_toArray, List.set_cons_zero, List.set_cons_succ])
          refine wpAnyH_take (i := 5) (oi := { dst := some 51, op := Go.Op.move (Go.Operand.tmp 0), type := 171, pos := "sha.go:89", after := #[], guard := none }) (v := ?_) rfl (by kernel_rfl) (by kernel_rfl) (by kernel_rfl) (fun _ _ _ h => h) (Or.inl ⟨by rfl, ?_⟩) (by assumption) ?_
          rotate_left
          · intro wS hSw
            (try dsimp only at hSw)
            go_simp
            (try with_reducible rfl)
          (try simp only [Act.put, List.setIfInBounds_toArray, List.set_cons_zero, List.set_cons_succ])
          refine wpAnyH_take (i := 6) (oi := { dst := some 52, op := Go.Op.nilCheck (Go.Operand.tmp 51), type := 0, pos := "sha.go:89", after := #[{ on := 5, ground := Go.Ground.data }], guard := none }) (v := ?_) rfl (by kernel_rfl) (by kernel_rfl) (by kernel_rfl) (fun _ _ _ h => h) (Or.inl ⟨by rfl, ?_⟩) (by assumption) ?_
          rotate_left
          · intro wS hSw
            (try dsimp only at hSw)
            go_simp
            (try with_reducible rfl)
          (try simp only [Act.put, List.setIfInBounds_toArray, List.set_cons_zero, List.set_cons_succ])
          refine wpAnyH_take (i := 7) (oi := { dst := some 53, op := Go.Op.fieldAddr 196 (Go.Operand.tmp 52) 1, type := 0, pos := "sha.go:89", after := #[{ on := 6, ground := Go.Ground.data }], guard := none }) (v := ?_) rfl (by kernel_rfl) (by kernel_rfl) (by kernel_rfl) (fun _ _ _ h => h) (Or.inl ⟨by rfl, ?_⟩) (by assumption) ?_
          rotate_left
          · intro wS hSw
            (try dsimp only at hSw)
            go_simp
            (try with_reducible rfl)
          (try simp only [Act.put, List.setIfInBounds_toArray, List.set_cons_zero, List.set_cons_succ])
          refine wpAnyH_ready (rs := [4, 8]) (by kernel_rfl) (by simp) ?_
          refine AllReadyH.cons (o := { dst := some 50, op := Go.Op.load 194 (Go.Operand.tmp 49), type := 194, pos := "sha.go:89", after := #[{ on := 3, ground := Go.Ground.data }], guard := none }) rfl (fun K hK => ?_) ?_
          · skip
            (refine step_loadM rfl 194 (.tmp 49) rfl g 0 rfl L1 _ HRW.out Tryd.underlying194 rfl HI1.out ?_; skip)
            refine hK.out _ _ ?_ (fun hHeld => ?_)
            · (try dsimp only)
              all_goals (first | trivial | assumption)
            clear hK K
            (try simp only [Act.put, List.setIfInBounds_toArray, List.set_cons_zero, List.set_cons_succ])
            refine wpAnyH_ready (rs := [8]) (by kernel_rfl) (by simp) ?_
            refine AllReadyH.cons (o := { dst := some 54, op := Go.Op.load 169 (Go.Operand.tmp 53), type := 169, pos := "sha.go:89", after := #[{ on := 7, ground := Go.Ground.data }], guard := none }) rfl (fun K hK => ?_) AllReadyH.nil
            (refine step_loadM rfl 169 (.tmp 53) rfl g 8 rfl L2 _ HRR.out Tryd.underlying169 rfl HI2.out ?_; skip)
            refine hK.out _ _ ?_ (fun hHeld => ?_)
            · (try dsimp only)
              all_goals (first | trivial | assumption)
            clear hK K
            (try simp only [Act.put, List.setIfInBounds_toArray, List.set_cons_zero, List.set_cons_succ])
            refine wpAnyH_ready (rs := [9]) (by kernel_rfl) (by simp) ?_
            refine AllReadyH.cons (o := { dst := some 55, op := Go.Op.call { callee := Go.Callee.value (Go.Operand.func 118), args := #[Go.Operand.tmp 50, Go.Operand.tmp 54], argTypes := #[194, 169] }, type := 194, pos := "sha.go:89", after := #[{ on := 4, ground := Go.Ground.data }, { on := 8, ground := Go.Ground.data }], guard := none }) rfl (fun K hK => ?_) AllReadyH.nil
            go_simp
            (refine (HMX.out _ (HG.out.own O6D.out HG0.out.1 HG0.out.2)).mono ?_; rintro e v_5 ⟨rfl, hb8⟩; have H8 : Hid (HB v_5 g (chK FG q) R' 64 N) := Lib.hid (Blk.below H6D.out hb8 (Blk.lt H6D.out)); have O8 : Hid (Own g w v_5) := Lib.hid (O6D.out.trans (Own.of_below hb8)); have OW8 : Hid (Own g wr v_5) := Lib.hid (OWD.out.trans (Own.of_below hb8)); have HTH : Hid (v_5.there g 0 CM.size) := Lib.hid (hCM ▸ there_mid H8.out (by rw [rowW_size, hshC_len]; decide)); clear hb8; skip)
            (try go_wp2_with fail)
            refine hK.out _ _ ?_ (fun hHeld => ?_)
            · (try dsimp only)
              all_goals (first | trivial | assumption)
            clear hK K
            (try simp only [Act.put, List.setIfInBounds_toArray, List.set_cons_zero, List.set_cons_succ])
            refine wpAnyH_take (i := 10) (oi := { dst := some 56, op := Go.Op.nilCheck (Go.Operand.tmp 46), type := 0, pos := "sha.go:89", after := #[{ on := 0, ground := Go.Ground.data }, { on := 0, ground := Go.Ground.phase }, { on := 1, ground := Go.Ground.phase }, { on := 2, ground := Go.Ground.phase }, { on := 3, ground := Go.Ground.phase }, { on := 4, ground := Go.Ground.phase }, { on := 5, ground := Go.Ground.phase }, { on := 6, ground := Go.Ground.phase }, { on := 7, ground := Go.Ground.phase }, { on := 8, ground := Go.Ground.phase }, { on := 9, ground := Go.Ground.phase }], guard := none }) (v := ?_) rfl (by kernel_rfl) (by kernel_rfl) (by kernel_rfl) (fun _ _ _ h => h) (Or.inl ⟨by rfl, ?_⟩) (by assumption) ?_
            rotate_left
            · intro wS hSw
              (try dsimp only at hSw)
              go_simp
              (try with_reducible rfl)
            (try simp only [Act.put, List.setIfInBounds_toArray, List.set_cons_zero, List.set_cons_succ])
            refine wpAnyH_take (i := 11) (oi := { dst := some 57, op := Go.Op.fieldAddr 196 (Go.Operand.tmp 56) 0, type := 0, pos := "sha.go:89", after := #[{ on := 10, ground := Go.Ground.data }, { on := 0, ground := Go.Ground.phase }, { on := 1, ground := Go.Ground.phase }, { on := 2, ground := Go.Ground.phase }, { on := 3, ground := Go.Ground.phase }, { on := 4, ground := Go.Ground.phase }, { on := 5, ground := Go.Ground.phase }, { on := 6, ground := Go.Ground.phase }, { on := 7, ground := Go.Ground.phase }, { on := 8, ground := Go.Ground.phase }, { on := 9, ground := Go.Ground.phase }], guard := none }) (v := ?_) rfl (by kernel_rfl) (by kernel_rfl) (by kernel_rfl) (fun _ _ _ h => h) (Or.inl ⟨by rfl, ?_⟩) (by assumption) ?_
            rotate_left
            · intro wS hSw
              (try dsimp only at hSw)
              go_simp
              (try with_reducible rfl)
            (try simp only [Act.put, List.setIfInBounds_toArray, List.set_cons_zero, List.set_cons_succ])
            refine wpAnyH_ready (rs := [12]) (by kernel_rfl) (by simp) ?_
            refine AllReadyH.cons (o := { dst := none, op := Go.Op.store 194 (Go.Operand.tmp 57) (Go.Operand.tmp 55), type := 0, pos := "sha.go:89", after := #[{ on := 11, ground := Go.Ground.data }, { on := 9, ground := Go.Ground.data }, { on := 9, ground := Go.Ground.chain }, { on := 0, ground := Go.Ground.phase }, { on := 1, ground := Go.Ground.phase }, { on := 2, ground := Go.Ground.phase }, { on := 3, ground := Go.Ground.phase }, { on := 4, ground := Go.Ground.phase }, { on := 5, ground := Go.Ground.phase }, { on := 6, ground := Go.Ground.phase }, { on := 7, ground := Go.Ground.phase }, { on := 8, ground := Go.Ground.phase }, { on := 9, ground := Go.Ground.phase }], guard := none }) rfl (fun K hK => ?_) AllReadyH.nil
            (refine step_storeM rfl 194 (.tmp 57) (.tmp 55) rfl g 0 CM rfl rfl HTH.out HJ1.out HJ2.out ?_; obtain ⟨w9, hw9⟩ : ∃ q', v_5.setCells g 0 CM.toList = q' := ⟨_, rfl⟩; rw [hw9]; skip)
            refine hK.out _ _ ?_ (fun hHeld => ?_)
            · (try dsimp only)
              all_goals (first | trivial | assumption)
            clear hK K
            (try simp only [Act.put, List.setIfInBounds_toArray, List.set_cons_zero, List.set_cons_succ])
            refine wpAnyH_done (by kernel_rfl) ?_ _
            have H9 : HB w9 g (chK FG (q + 1)) R' 64 N := by rw [← hw9, ← hCM]; exact H8.out.words _
            have O9 : Own g w w9 := by rw [← hw9]; exact O8.out.trans (Own.setCells _ _ _)
            have OW9 : Own g wr w9 := by rw [← hw9]; exact OW8.out.trans (Own.setCells _ _ _)
            have c9 := H9.held
            have z9 : w9.frozen? ⟨g, 72, none⟩ = false := Blk.free H9 _
            obtain ⟨w10, hw10⟩ : ∃ q, w9.setCell ⟨g, 72, none⟩ (.int .i64 0) = q := ⟨_, rfl⟩
            have HX : Hid (WI FG g N (n + (j + s)) w10) := Lib.hid (by
              have h1 := HNUM.out
              refine ⟨R', ?_, fun i hi => ?_, HR2'.out⟩
              · rw [show (n + (j + s)) / 64 = q + 1 by omega, show (n + (j + s)) % 64 = 0 by omega, ← hw10]; exact H9.setk 0
              · rw [show (n + (j + s)) % 64 = 0 by omega] at hi; exact absurd hi (Nat.not_lt_zero _))
            have O10 : Hid (Own g w w10) := Lib.hid (by rw [← hw10]; exact O9.set 72 _)
            have hO : Own g wr w10 := by rw [← hw10]; exact OW9.set 72 _
            have HBF : Hid (Bytes w10 (some ⟨b, off + s, none⟩) (m - (j + s)) (fun i => G (j + s + i))) := Lib.hid (by have := HNUM.out; rw [show m - (j + s) = l - s by omega]; exact HBYN.out _ hO)
            clear H8 O8 OW8 H9 O9 OW9 hO HRW HRR H6D O6D OWD HMX HBYN hw9 hCM HTH
            go_wp2_with fail
            clear hw10 c9 z9
            have HNE' : Hid (∀ x, some (⟨b, off + s, none⟩ : Addr) = some x → 0 < m - (j + s) → x.block ≠ g) := Lib.hid fun x hx _ => by cases hx; exact HBG.out
            go_roundw
            case rel => exact ⟨j + s, _, some ⟨b, off + s, none⟩, by have := HNUM.out; omega, (by have h9 : m - (j + s) = l - s := (by have := HNUM.out; omega); first | (rw [h9]; done) | (rw [h9]; congr 1; omega)), by have := HNUM.out; omega, HBF.out, HNE'.out, HX.out, O10.out⟩
            case measure => simp [lenV]; omega
          refine AllReadyH.cons (o := { dst := some 54, op := Go.Op.load 169 (Go.Operand.tmp 53), type := 169, pos := "sha.go:89", after := #[{ on := 7, ground := Go.Ground.data }], guard := none }) rfl (fun K hK => ?_) AllReadyH.nil
          (refine step_loadM rfl 169 (.tmp 53) rfl g 8 rfl L2 _ HRR.out Tryd.underlying169 rfl HI2.out ?_; skip)
          refine hK.out _ _ ?_ (fun hHeld => ?_)
          · (try dsimp only)
            all_goals (first | trivial | assumption)
          clear hK K
          (try simp only [Act.put, List.setIfInBounds_toArray, List.set_cons_zero, List.set_cons_succ])
          refine wpAnyH_ready (rs := [4]) (by kernel_rfl) (by simp) ?_
          refine AllReadyH.cons (o := { dst := some 50, op := Go.Op.load 194 (Go.Operand.tmp 49), type := 194, pos := "sha.go:89", after := #[{ on := 3, ground := Go.Ground.data }], guard := none }) rfl (fun K hK => ?_) AllReadyH.nil
          (refine step_loadM rfl 194 (.tmp 49) rfl g 0 rfl L1 _ HRW.out Tryd.underlying194 rfl HI1.out ?_; skip)
          refine hK.out _ _ ?_ (fun hHeld => ?_)
          · (try dsimp only)
            all_goals (first | trivial | assumption)
          clear hK K
          (try simp only [Act.put, List.setIfInBounds_toArray, List.set_cons_zero, List.set_cons_succ])
          refine wpAnyH_ready (rs := [9]) (by kernel_rfl) (by simp) ?_
          refine AllReadyH.cons (o := { dst := some 55, op := Go.Op.call { callee := Go.Callee.value (Go.Operand.func 118), args := #[Go.Operand.tmp 50, Go.Operand.tmp 54], argTypes := #[194, 169] }, type := 194, pos := "sha.go:89", after := #[{ on := 4, ground := Go.Ground.data }, { on := 8, ground := Go.Ground.data }], guard := none }) rfl (fun K hK => ?_) AllReadyH.nil
          go_simp
          (refine (HMX.out _ (HG.out.own O6D.out HG0.out.1 HG0.out.2)).mono ?_; rintro e v_7 ⟨rfl, hb8⟩; have H8 : Hid (HB v_7 g (chK FG q) R' 64 N) := Lib.hid (Blk.below H6D.out hb8 (Blk.lt H6D.out)); have O8 : Hid (Own g w v_7) := Lib.hid (O6D.out.trans (Own.of_below hb8)); have OW8 : Hid (Own g wr v_7) := Lib.hid (OWD.out.trans (Own.of_below hb8)); have HTH : Hid (v_7.there g 0 CM.size) := Lib.hid (hCM ▸ there_mid H8.out (by rw [rowW_size, hshC_len]; decide)); clear hb8; skip)
          (try go_wp2_with fail)
          refine hK.out _ _ ?_ (fun hHeld => ?_)
          · (try dsimp only)
            all_goals (first | trivial | assumption)
          clear hK K
          (try simp only [Act.put, List.setIfInBounds_toArray, List.set_cons_zero, List.set_cons_succ])
          refine wpAnyH_take (i := 10) (oi := { dst := some 56, op := Go.Op.nilCheck (Go.Operand.tmp 46), type := 0, pos := "sha.go:89", after := #[{ on := 0, ground := Go.Ground.data }, { on := 0, ground := Go.Ground.phase }, { on := 1, ground := Go.Ground.phase }, { on := 2, ground := Go.Ground.phase }, { on := 3, ground := Go.Ground.phase }, { on := 4, ground := Go.Ground.phase }, { on := 5, ground := Go.Ground.phase }, { on := 6, ground := Go.Ground.phase }, { on := 7, ground := Go.Ground.phase }, { on := 8, ground := Go.Ground.phase }, { on := 9, ground := Go.Ground.phase }], guard := none }) (v := ?_) rfl (by kernel_rfl) (by kernel_rfl) (by kernel_rfl) (fun _ _ _ h => h) (Or.inl ⟨by rfl, ?_⟩) (by assumption) ?_
          rotate_left
          · intro wS hSw
            (try dsimp only at hSw)
            go_simp
            (try with_reducible rfl)
          (try simp only [Act.put, List.setIfInBounds_toArray, List.set_cons_zero, List.set_cons_succ])
          refine wpAnyH_take (i := 11) (oi := { dst := some 57, op := Go.Op.fieldAddr 196 (Go.Operand.tmp 56) 0, type := 0, pos := "sha.go:89", after := #[{ on := 10, ground := Go.Ground.data }, { on := 0, ground := Go.Ground.phase }, { on := 1, ground := Go.Ground.phase }, { on := 2, ground := Go.Ground.phase }, { on := 3, ground := Go.Ground.phase }, { on := 4, ground := Go.Ground.phase }, { on := 5, ground := Go.Ground.phase }, { on := 6, ground := Go.Ground.phase }, { on := 7, ground := Go.Ground.phase }, { on := 8, ground := Go.Ground.phase }, { on := 9, ground := Go.Ground.phase }], guard := none }) (v := ?_) rfl (by kernel_rfl) (by kernel_rfl) (by kernel_rfl) (fun _ _ _ h => h) (Or.inl ⟨by rfl, ?_⟩) (by assumption) ?_
          rotate_left
          · intro wS hSw
            (try dsimp only at hSw)
            go_simp
            (try with_reducible rfl)
          (try simp only [Act.put, List.setIfInBounds_toArray, List.set_cons_zero, List.set_cons_succ])
          refine wpAnyH_ready (rs := [12]) (by kernel_rfl) (by simp) ?_
          refine AllReadyH.cons (o := { dst := none, op := Go.Op.store 194 (Go.Operand.tmp 57) (Go.Operand.tmp 55), type := 0, pos := "sha.go:89", after := #[{ on := 11, ground := Go.Ground.data }, { on := 9, ground := Go.Ground.data }, { on := 9, ground := Go.Ground.chain }, { on := 0, ground := Go.Ground.phase }, { on := 1, ground := Go.Ground.phase }, { on := 2, ground := Go.Ground.phase }, { on := 3, ground := Go.Ground.phase }, { on := 4, ground := Go.Ground.phase }, { on := 5, ground := Go.Ground.phase }, { on := 6, ground := Go.Ground.phase }, { on := 7, ground := Go.Ground.phase }, { on := 8, ground := Go.Ground.phase }, { on := 9, ground := Go.Ground.phase }], guard := none }) rfl (fun K hK => ?_) AllReadyH.nil
          (refine step_storeM rfl 194 (.tmp 57) (.tmp 55) rfl g 0 CM rfl rfl HTH.out HJ1.out HJ2.out ?_; obtain ⟨w9, hw9⟩ : ∃ q', v_7.setCells g 0 CM.toList = q' := ⟨_, rfl⟩; rw [hw9]; skip)
          refine hK.out _ _ ?_ (fun hHeld => ?_)
          · (try dsimp only)
            all_goals (first | trivial | assumption)
          clear hK K
          (try simp only [Act.put, List.setIfInBounds_toArray, List.set_cons_zero, List.set_cons_succ])
          refine wpAnyH_done (by kernel_rfl) ?_ _
          have H9 : HB w9 g (chK FG (q + 1)) R' 64 N := by rw [← hw9, ← hCM]; exact H8.out.words _
          have O9 : Own g w w9 := by rw [← hw9]; exact O8.out.trans (Own.setCells _ _ _)
          have OW9 : Own g wr w9 := by rw [← hw9]; exact OW8.out.trans (Own.setCells _ _ _)
          have c9 := H9.held
          have z9 : w9.frozen? ⟨g, 72, none⟩ = false := Blk.free H9 _
          obtain ⟨w10, hw10⟩ : ∃ q, w9.setCell ⟨g, 72, none⟩ (.int .i64 0) = q := ⟨_, rfl⟩
          have HX : Hid (WI FG g N (n + (j + s)) w10) := Lib.hid (by
            have h1 := HNUM.out
            refine ⟨R', ?_, fun i hi => ?_, HR2'.out⟩
            · rw [show (n + (j + s)) / 64 = q + 1 by omega, show (n + (j + s)) % 64 = 0 by omega, ← hw10]; exact H9.setk 0
            · rw [show (n + (j + s)) % 64 = 0 by omega] at hi; exact absurd hi (Nat.not_lt_zero _))
          have O10 : Hid (Own g w w10) := Lib.hid (by rw [← hw10]; exact O9.set 72 _)
          have hO : Own g wr w10 := by rw [← hw10]; exact OW9.set 72 _
          have HBF : Hid (Bytes w10 (some ⟨b, off + s, none⟩) (m - (j + s)) (fun i => G (j + s + i))) := Lib.hid (by have := HNUM.out; rw [show m - (j + s) = l - s by omega]; exact HBYN.out _ hO)
          clear H8 O8 OW8 H9 O9 OW9 hO HRW HRR H6D O6D OWD HMX HBYN hw9 hCM HTH
          go_wp2_with fail
          clear hw10 c9 z9
          have HNE' : Hid (∀ x, some (⟨b, off + s, none⟩ : Addr) = some x → 0 < m - (j + s) → x.block ≠ g) := Lib.hid fun x hx _ => by cases hx; exact HBG.out
          go_roundw
          case rel => exact ⟨j + s, _, some ⟨b, off + s, none⟩, by have := HNUM.out; omega, (by have h9 : m - (j + s) = l - s := (by have := HNUM.out; omega); first | (rw [h9]; done) | (rw [h9]; congr 1; omega)), by have := HNUM.out; omega, HBF.out, HNE'.out, HX.out, O10.out⟩
          case measure => simp [lenV]; omega
        · have hu' : ¬ (u : Int) = 64 := by omega
          have HU : Hid (u ≠ 64) := Lib.hid hu
          have hO := OW.out
          have HBF : Hid (Bytes w6 (some ⟨b, off + s, none⟩) (m - (j + s)) (fun i => G (j + s + i))) := Lib.hid (by have := HNUM.out; rw [show m - (j + s) = l - s by omega]; exact HBYN.out _ hO)
          clear hu hO OW HBYN hL1 hL2
          go_wp2_with fail
          have HX : Hid (WI FG g N (n + (j + s)) w6) := Lib.hid (by
            have h1 := HNUM.out
            have h2 := HU.out
            refine ⟨R', ?_, fun i hi => ?_, HR2'.out⟩
            · rw [show (n + (j + s)) / 64 = q by omega, show (n + (j + s)) % 64 = u by omega]; exact H6'.out
            · rw [show (n + (j + s)) / 64 = q by omega]; exact HR1'.out i (by omega))
          have HNE' : Hid (∀ x, some (⟨b, off + s, none⟩ : Addr) = some x → 0 < m - (j + s) → x.block ≠ g) := Lib.hid fun x hx _ => by cases hx; exact HBG.out
          go_roundw
          case rel => exact ⟨j + s, _, some ⟨b, off + s, none⟩, by have := HNUM.out; omega, (by have h9 : m - (j + s) = l - s := (by have := HNUM.out; omega); first | (rw [h9]; done) | (rw [h9]; congr 1; omega)), by have := HNUM.out; omega, HBF.out, HNE'.out, HX.out, O6'.out⟩
          case measure => simp [lenV]; omega
end Go.Proofs.YtmabhjifldafaaaDoor
namespace Go.Proofs.YtmabhjifldafaaaDoor
set_option linter.unusedVariables false
set_option linter.unusedSimpArgs false
open Go.RowKit

def zero32 : Array Value := (rowC 32 (fun _ => 0)).toArray
theorem zero32_run (w : World) : (zeroValue 63).run Tryd.prog w = .ok (.agg zero32) w := by kernel_rfl
theorem info27 (v : Nat → Nat) : (Tryd.prog.info? 63).map (·.size) = some (rowC 32 v).toArray.size := by rw [rowC_size]; kernel_rfl
theorem one32 (v : Nat → Nat) : (rowC 32 v).toArray.all (·.oneCell') = true := all_oneCell_toArray (rowC_one _ _)
/-- How far it is to 56 bytes held. -/
def heldM (g : Nat) (w : World) : Nat := match w.cell? ⟨g, 72, none⟩ with
  | some (.int _ k) => (120 - k.toNat) % 64
  | _ => 0
theorem HS.heldM {w : World} {g n : Nat} {F : Nat → Nat} (h : HS w g n F) : heldM g w = (120 - n % 64) % 64 := by
  obtain ⟨_, R, h1, _⟩ := h
  have := HB.held h1
  unfold Proofs.YtmabhjifldafaaaDoor.heldM; rw [this]; rfl
theorem HS.all {w : World} {g n : Nat} {F : Nat → Nat} (h : HS w g n F) : w.cell? ⟨g, 73, none⟩ = some (.int .u64 (n : Nat)) := by
  obtain ⟨_, R, h1, _⟩ := h; exact HB.all h1
theorem HS.held {w : World} {g n : Nat} {F : Nat → Nat} (h : HS w g n F) : w.cell? ⟨g, 72, none⟩ = some (.int .i64 (n % 64 : Nat)) := by
  obtain ⟨_, R, h1, _⟩ := h; exact HB.held h1
/-- While a sum is taken. -/
structure SS (w0 : World) (g p : Nat) (F : Nat → Nat) (wr : World) : Prop where
  h : HS wr g p F
  r : RB 63 32 w0.heap.size (fun _ => 0) wr
  s : RB 63 32 (w0.heap.size + 1) (fun _ => 0) wr
  o : Below w0.heap.size w0 wr
  v : GV wr
  n : w0.heap.size + 1 < g
theorem SS.write {w0 : World} {g p x : Nat} {F : Nat → Nat} {wr w1 w2 : World} (h : SS w0 g p F wr) (h1 : Below wr.heap.size wr w1) (h2 : HS w2 g (p + 1) (catF p F (fun _ => x))) (hO : Own g w1 w2) (hx : F p = x) : SS w0 g (p + 1) F w2 := by
  have h3 := h.h.lt
  refine ⟨h2.congr fun i hi => ?_, hO.blk (Blk.below h.r h1 (Blk.lt h.r)) (by have := h.n; omega), hO.blk (Blk.below h.s h1 (Blk.lt h.s)) (by have := h.n; omega), ?_, (h.v.later h1).own hO h.h.1.1 h.h.1.2, h.n⟩
  · unfold catF
    by_cases e : i < p
    · rw [if_pos e]
    · rw [if_neg e, ← hx, show i = p by omega]
  · have h4 := h.o.trans (h1.mono h.o.size)
    exact h4.trans (hO.below (by have := h.n; omega) h4.size)
/-- One byte more: the call. -/
theorem SS.call {w0 : World} {g p x : Nat} {F : Nat → Nat} {wr : World} (h : SS w0 g p F wr) (hp : p < 999999999999) (hx8 : x < 256) (hx : F p = x) :
    Calls Tryd.prog 109 #[.pointer (some ⟨g, 0, none⟩), .slice (some ⟨wr.heap.size, 0, none⟩) 1 1] (wr.alloc (.cells #[.int .u8 (x : Nat)] 5)) fun e w' => e = .returned (.tuple #[]) ∧ SS w0 g (p + 1) F w' := by
  have hb : Below wr.heap.size wr (wr.alloc (.cells #[.int .u8 (x : Nat)] 5)) := (Below.refl _ _).alloc (Nat.le_refl _) _
  refine (write_any g p 1 1 _ F (fun _ => x) _ (h.h.later hb) (one_byte hx8) (Nat.le_refl _) (fun a ha _ => ?_) (by omega) (h.v.later hb)).mono ?_
  · cases ha; have := h.h.lt; show wr.heap.size ≠ g; omega
  · rintro e w' ⟨rfl, h2, hO⟩
    exact ⟨rfl, h.write hb h2 hO hx⟩
theorem pad_128 (n : Nat) (F : Nat → Nat) : padN n F n = 128 := by unfold padN; rw [if_neg (Nat.lt_irrefl _), if_pos rfl]
theorem pad_0 (n : Nat) (F : Nat → Nat) {i : Nat} (h1 : n < i) (h2 : i < 64 * blkN n - 8) : padN n F i = 0 := by unfold padN; rw [if_neg (by omega), if_neg (by omega), if_pos h2]
theorem pad_n (n : Nat) (F : Nat → Nat) {i : Nat} (h : i < 8) : padN n F (64 * blkN n - 8 + i) = numB (8 * n) 8 i := by
  have : n + 1 ≤ 64 * blkN n - 8 := by unfold blkN; omega
  unfold padN; rw [if_neg (by omega), if_neg (by omega), if_neg (by omega), Nat.add_sub_cancel_left]
set_option maxRecDepth 100000 in
set_option maxHeartbeats 1000000 in
theorem sum_nil (w : World) :
    Calls Tryd.prog 110 #[.pointer none] w fun e w' => e = .returned (.agg zero32) ∧ Below w.heap.size w w' := by
  have hz := zero32_run
  obtain ⟨wa, hwa⟩ : ∃ q, (w.alloc (.cells zero32 63)).alloc (.cells zero32 63) = q := ⟨_, rfl⟩
  have hA : Blk wa (w.heap.size + 1) zero32 63 := by rw [← hwa]; simpa using Blk.new (w.alloc (.cells zero32 63)) zero32 63
  have hR : Blk wa w.heap.size zero32 63 := by rw [← hwa]; exact (Blk.new w zero32 63).alloc _
  have hb : Below w.heap.size w wa := by rw [← hwa]; exact ((Below.refl _ _).alloc (Nat.le_refl _) _).alloc (by simp) _
  have HA := Lib.hid hA
  have HN : Hid (Blk (wa.setCells w.heap.size 0 zero32.toList) w.heap.size zero32 63) := Lib.hid (Blk.setCells hR (rowC 32 (fun _ => 0)) (by unfold zero32; rw [rowC_size, rowC_len]))
  have HO : Hid (Below w.heap.size w (wa.setCells w.heap.size 0 zero32.toList)) := Lib.hid (hb.trans ((Own.setCells _ 0 wa).below (Nat.le_refl _) hb.size))
  have HT : Hid (wa.there w.heap.size 0 zero32.size) := Lib.hid (Blk.there hR (Nat.le_refl _))
  have HI : Hid ((Tryd.prog.info? 63).map (·.size) = some zero32.size) := Lib.hid (info27 _)
  have HI1 : Hid (zero32.all (·.oneCell') = true) := Lib.hid (one32 _)
  clear hA hR hb
  go_enter Tryd.func110, Tryd.ntmps110
  go_wp2_with (first
    | (refine wpList_load_row rfl 63 (.tmp 3) rfl (w.heap.size + 1) rfl 63 zero32 (0, 0) _ HA.out Tryd.underlying63 rfl HI.out ?_)
    | (refine wpList_store_mid rfl 63 (.tmp 2) (.tmp 11) rfl w.heap.size 0 zero32 rfl rfl HT.out HI.out HI1.out ?_))
  refine bodyPost_ret (v := .agg zero32) ?_ rfl ⟨rfl, HO.out⟩
  exact results_cell_row Tryd.results110 _ _ w.heap.size 63 zero32 (0, 0) _ rfl HN.out Tryd.underlying63 rfl HI.out
theorem run_index56 (W : Nat → Nat) (t : Nat) (ht : t < 8) (w : World) : (Instr.index 194 (.agg (rowW 8 W).toArray) (.int .i64 (t : Int))).run Tryd.prog w = .ok (.int .u32 (W t : Nat)) w := by
  have h1 : Tryd.prog.underlying 194 = some (.array 8 193) := Tryd.underlying194
  have h2 : (isAgg 193).run Tryd.prog w = .ok false w := by
    unfold isAgg; rw [Sem.run_bind, run_underlying Tryd.underlying193 w]; rfl
  have h3 : (sizeOf 193).run Tryd.prog w = .ok 1 w := by kernel_rfl
  have h4 : (0 : Int) ≤ (t : Int) ∧ (t : Int) < ((8 : Nat) : Int) := by omega
  have h5 : (t : Int).toNat * 1 = t := by omega
  have h6 : (rowW 8 W).toArray[t]? = some (.int .u32 (W t : Nat)) := by rw [List.getElem?_toArray]; exact rowW_get W ht
  unfold Instr.index part
  simp only [asIntOf, Sem.run_bind, Sem.run_pure, Result.andThen_ok, run_underlying h1]
  rw [if_pos h4]
  simp only [Sem.run_bind, Result.andThen_ok, h2, h3, h5, h6, Bool.false_eq_true, if_false, Sem.run_pure]
/-- While a sum's bytes are laid. -/
structure SD (w0 : World) (D : Nat → Nat) (wr : World) : Prop where
  r : RB 63 32 w0.heap.size (fun _ => 0) wr
  s : RB 63 32 (w0.heap.size + 1) D wr
  o : Below w0.heap.size w0 wr
theorem SD.set {w0 : World} {D : Nat → Nat} {wr : World} (h : SD w0 D wr) (k x : Nat) : SD w0 (upd D k x) (wr.setCell ⟨w0.heap.size + 1, k, none⟩ (.int .u8 (x : Nat))) :=
  ⟨Blk.set_other h.r (by simp) _, h.s.set k x, h.o.setCell (by simp) _⟩
theorem SD.congr {w0 : World} {D E : Nat → Nat} {wr : World} (h : SD w0 D wr) (he : ∀ i, i < 32 → D i = E i) : SD w0 E wr := ⟨h.r, h.s.congr he, h.o⟩
set_option maxRecDepth 100000 in
set_option maxHeartbeats 8000000 in
theorem hsum_any (g n : Nat) (F : Nat → Nat) (w : World) (h : HS w g n F) (hn : n < 900000000000) (hg : GV w) :
    Calls Tryd.prog 110 #[.pointer (some ⟨g, 0, none⟩)] w fun e w' => e = .returned (.agg (rowC 32 (shaN n F)).toArray) ∧ Below w.heap.size w w' := by
  have hz := zero32_run
  obtain ⟨wa, hwa⟩ : ∃ q, (w.alloc (.cells zero32 63)).alloc (.cells zero32 63) = q := ⟨_, rfl⟩
  have hb : Below w.heap.size w wa := by rw [← hwa]; exact ((Below.refl _ _).alloc (Nat.le_refl _) _).alloc (by simp) _
  have HA : Hid (RB 63 32 w.heap.size (fun _ => 0) wa ∧ RB 63 32 (w.heap.size + 1) (fun _ => 0) wa ∧ Below w.heap.size w wa ∧ GV wa ∧ HS wa g n F ∧ wa.heap.size = w.heap.size + 1 + 1) := Lib.hid (by
    refine ⟨?_, ?_, hb, hg.later hb, h.later hb, by rw [← hwa]; simp⟩
    · rw [← hwa]; exact (Blk.new w zero32 63).alloc _
    · rw [← hwa]; simpa [RB, zero32] using Blk.new (w.alloc (.cells zero32 63)) zero32 63)
  have HNB := Lib.hid hn
  obtain ⟨T, hT⟩ : ∃ T, 64 * blkN n - 8 = T := ⟨_, rfl⟩
  have HT : Hid (64 * blkN n - 8 = T ∧ n + 1 ≤ T ∧ T % 64 = 56 ∧ T < n + 72 ∧ T + 8 = 64 * blkN n) := Lib.hid (by unfold blkN at hT ⊢; omega)
  have hc8 : IntKind.u64.wrap ((n : Int) * 8) = ((8 * n : Nat) : Int) := by simp [IntKind.wrap, IntKind.bits, IntKind.signed]; omega
  have hc9 : (n : Int) * 8 = ((8 * n : Nat) : Int) := by omega
  obtain ⟨N8, hN8⟩ : ∃ N, 8 * n = N := ⟨_, rfl⟩
  rw [hN8] at hc8 hc9
  have HN8 : Hid (8 * n = N8 ∧ N8 < 18446744073709551616) := Lib.hid ⟨hN8, by omega⟩
  have hc7 : IntKind.u64.wrap (N8 : Int) = (N8 : Int) := by simp [IntKind.wrap, IntKind.bits, IntKind.signed]; omega
  have hc6 : (N8 : Int) % 18446744073709551616 = (N8 : Int) := by omega
  obtain ⟨Pd, hPd⟩ : ∃ Q, padN n F = Q := ⟨_, rfl⟩
  have HP : Hid (padN n F = Pd) := Lib.hid hPd
  obtain ⟨D, hD⟩ : ∃ D, shaN n F = D := ⟨_, rfl⟩
  have HDD := Lib.hid hD
  rw [hD]
  clear h hg hb hT hN8 hPd hn hD
  go_enter Tryd.func110, Tryd.ntmps110
  go_wp2_with fail
  clear hz hwa
  refine (hclone_any g n F _ HA.out.2.2.2.2.1 HA.out.2.2.2.1).mono ?_
  rintro e w1 ⟨e1, rfl, hc1, hb1, hge⟩
  have HS1 : Hid (SS w e1 n Pd w1) := Lib.hid (by
    obtain ⟨a1, a2, a3, a4, a5, a6⟩ := HA.out
    refine ⟨hc1.congr fun i hi => ?_, Blk.below a1 hb1 (Blk.lt a1), Blk.below a2 hb1 (Blk.lt a2), a3.trans (hb1.mono a3.size), a4.later hb1, by omega⟩
    rw [← HP.out]; exact (if_pos hi).symm)
  clear hc1 hb1 hge HA
  have c73 := HS1.out.h.all
  go_wp2_with fail
  clear c73 hc8 hc9
  refine (HS1.out.call (by have := HNB.out; omega) (show 128 < 256 by decide) (by rw [← HP.out]; exact pad_128 n F)).mono ?_
  rintro e w2 ⟨rfl, hS2⟩
  have HS2 := Lib.hid hS2
  clear hS2 HS1
  go_wp2_with fail
  go_loopw [29] (fun _ wr => ∃ p : Nat, n + 1 ≤ p ∧ p ≤ T ∧ SS w e1 p Pd wr) (fun _ wr => heldM e1 wr)
  case atStart => exact ⟨n + 1, Nat.le_refl _, HT.out.2.1, HS2.out⟩
  case round =>
    clear HS2
    obtain ⟨p, hp1, hp2, hS⟩ := hrel
    have HS3 := Lib.hid hS
    have c72 := hS.h.held
    clear hS
    have HHM : Hid (heldM e1 wr = (120 - p % 64) % 64) := Lib.hid HS3.out.h.heldM
    by_cases hlt : p < T
    · have h56 : p % 64 ≠ 56 := by
        have := HT.out
        have hbk : blkN n = (n + 8) / 64 + 1 := rfl
        omega
      have h56' : ¬ ((p % 64 : Nat) : Int) = 56 := by omega
      have HPN : Hid (n + 1 ≤ p ∧ p < T ∧ p % 64 ≠ 56) := Lib.hid ⟨hp1, hlt, h56⟩
      obtain ⟨k, hk⟩ : ∃ k, p % 64 = k := ⟨_, rfl⟩
      rw [hk] at c72 h56'
      have HK := Lib.hid hk
      clear hk h56 hlt hp1 hp2
      go_wp2_with fail
      refine (HS3.out.call (by have := HPN.out; have := HT.out; have := HNB.out; omega) (show 0 < 256 by decide) (by rw [← HP.out]; exact pad_0 n F (by have := HPN.out; omega) (by rw [HT.out.1]; exact HPN.out.2.1))).mono ?_
      rintro e w3 ⟨rfl, hS4⟩
      have HS4 := Lib.hid hS4
      clear hS4 c72 h56'
      go_wp2_with fail
      go_roundw
      case rel => exact ⟨p + 1, by have := HPN.out; omega, by have := HPN.out; omega, HS4.out⟩
      case measure => rw [HHM.out, HS4.out.h.heldM]; have := HPN.out; omega
    · obtain rfl : p = T := by omega
      have h56 : ((p % 64 : Nat) : Int) = 56 := by have := HT.out.2.2.1; omega
      rw [h56] at c72
      clear h56 hlt hp1 hp2 HHM
      go_wp2_with fail
      clear c72
      go_loopw [6] (fun v wr => ∃ i : Nat, i ≤ 8 ∧ v = .int .i64 (56 - 8 * (i : Int)) ∧ SS w e1 (p + i) Pd wr) (fun v _ => (intOf v + 8).toNat)
      case atStart => exact ⟨0, Nat.zero_le _, rfl, HS3.out⟩
      case round =>
        clear HS3
        obtain ⟨i, hi, rfl, hS⟩ := hrel
        have HS3 := Lib.hid hS
        clear hS
        rcases (by omega : i = 0 ∨ i = 1 ∨ i = 2 ∨ i = 3 ∨ i = 4 ∨ i = 5 ∨ i = 6 ∨ i = 7 ∨ i = 8) with rfl | rfl | rfl | rfl | rfl | rfl | rfl | rfl | rfl
        · rw [show (56 - 8 * ((0 : Nat) : Int)) = 56 from rfl]
          obtain ⟨x, hx⟩ : ∃ x, numB N8 8 0 = x := ⟨_, rfl⟩
          have hx8 : x < 256 := by rw [← hx]; exact numB_lt _ _ _
          have v0 : (N8 : Int) / 72057594037927936 % 256 = (x : Int) := by
            have := num8 N8 0 72057594037927936 (by decide) (by decide)
            rw [hx] at this
            rw [show (((72057594037927936 : Nat) : Int)) = 72057594037927936 from rfl] at this; exact this
          have v2 : (N8 : Int) / 72057594037927936 = (x : Int) := by have := HN8.out.2; rw [← v0]; omega
          have v3 : (x : Int) % 256 = (x : Int) := by omega
          have v1 : (N8 : Int) / 72057594037927936 % 18446744073709551616 = (N8 : Int) / 72057594037927936 := by have := HN8.out.2; omega
          have HX : Hid (Pd (p + 0) = x ∧ x < 256) := Lib.hid ⟨by rw [← HP.out, ← HT.out.1, pad_n n F (by decide), HN8.out.1, hx], hx8⟩
          clear hx hx8
          go_wp2_with fail
          clear v0 v1 v2 v3
          refine (HS3.out.call (by have := HT.out; have := HNB.out; omega) HX.out.2 HX.out.1).mono ?_
          rintro e w3 ⟨rfl, hS4⟩
          have HS4 := Lib.hid hS4
          clear hS4
          go_wp2_with fail
          go_roundw
          case rel => exact ⟨1, by decide, rfl, HS4.out⟩
          case measure => decide
        · rw [show (56 - 8 * ((1 : Nat) : Int)) = 48 from rfl]
          obtain ⟨x, hx⟩ : ∃ x, numB N8 8 1 = x := ⟨_, rfl⟩
          have hx8 : x < 256 := by rw [← hx]; exact numB_lt _ _ _
          have v0 : (N8 : Int) / 281474976710656 % 256 = (x : Int) := by
            have := num8 N8 1 281474976710656 (by decide) (by decide)
            rw [hx] at this
            rw [show (((281474976710656 : Nat) : Int)) = 281474976710656 from rfl] at this; exact this
          have v1 : (N8 : Int) / 281474976710656 % 18446744073709551616 = (N8 : Int) / 281474976710656 := by have := HN8.out.2; omega
          have HX : Hid (Pd (p + 1) = x ∧ x < 256) := Lib.hid ⟨by rw [← HP.out, ← HT.out.1, pad_n n F (by decide), HN8.out.1, hx], hx8⟩
          clear hx hx8
          go_wp2_with fail
          clear v0 v1
          refine (HS3.out.call (by have := HT.out; have := HNB.out; omega) HX.out.2 HX.out.1).mono ?_
          rintro e w3 ⟨rfl, hS4⟩
          have HS4 := Lib.hid hS4
          clear hS4
          go_wp2_with fail
          go_roundw
          case rel => exact ⟨2, by decide, rfl, HS4.out⟩
          case measure => decide
        · rw [show (56 - 8 * ((2 : Nat) : Int)) = 40 from rfl]
          obtain ⟨x, hx⟩ : ∃ x, numB N8 8 2 = x := ⟨_, rfl⟩
          have hx8 : x < 256 := by rw [← hx]; exact numB_lt _ _ _
          have v0 : (N8 : Int) / 1099511627776 % 256 = (x : Int) := by
            have := num8 N8 2 1099511627776 (by decide) (by decide)
            rw [hx] at this
            rw [show (((1099511627776 : Nat) : Int)) = 1099511627776 from rfl] at this; exact this
          have v1 : (N8 : Int) / 1099511627776 % 18446744073709551616 = (N8 : Int) / 1099511627776 := by have := HN8.out.2; omega
          have HX : Hid (Pd (p + 2) = x ∧ x < 256) := Lib.hid ⟨by rw [← HP.out, ← HT.out.1, pad_n n F (by decide), HN8.out.1, hx], hx8⟩
          clear hx hx8
          go_wp2_with fail
          clear v0 v1
          refine (HS3.out.call (by have := HT.out; have := HNB.out; omega) HX.out.2 HX.out.1).mono ?_
          rintro e w3 ⟨rfl, hS4⟩
          have HS4 := Lib.hid hS4
          clear hS4
          go_wp2_with fail
          go_roundw
          case rel => exact ⟨3, by decide, rfl, HS4.out⟩
          case measure => decide
        · rw [show (56 - 8 * ((3 : Nat) : Int)) = 32 from rfl]
          obtain ⟨x, hx⟩ : ∃ x, numB N8 8 3 = x := ⟨_, rfl⟩
          have hx8 : x < 256 := by rw [← hx]; exact numB_lt _ _ _
          have v0 : (N8 : Int) / 4294967296 % 256 = (x : Int) := by
            have := num8 N8 3 4294967296 (by decide) (by decide)
            rw [hx] at this
            rw [show (((4294967296 : Nat) : Int)) = 4294967296 from rfl] at this; exact this
          have v1 : (N8 : Int) / 4294967296 % 18446744073709551616 = (N8 : Int) / 4294967296 := by have := HN8.out.2; omega
          have HX : Hid (Pd (p + 3) = x ∧ x < 256) := Lib.hid ⟨by rw [← HP.out, ← HT.out.1, pad_n n F (by decide), HN8.out.1, hx], hx8⟩
          clear hx hx8
          go_wp2_with fail
          clear v0 v1
          refine (HS3.out.call (by have := HT.out; have := HNB.out; omega) HX.out.2 HX.out.1).mono ?_
          rintro e w3 ⟨rfl, hS4⟩
          have HS4 := Lib.hid hS4
          clear hS4
          go_wp2_with fail
          go_roundw
          case rel => exact ⟨4, by decide, rfl, HS4.out⟩
          case measure => decide
        · rw [show (56 - 8 * ((4 : Nat) : Int)) = 24 from rfl]
          obtain ⟨x, hx⟩ : ∃ x, numB N8 8 4 = x := ⟨_, rfl⟩
          have hx8 : x < 256 := by rw [← hx]; exact numB_lt _ _ _
          have v0 : (N8 : Int) / 16777216 % 256 = (x : Int) := by
            have := num8 N8 4 16777216 (by decide) (by decide)
            rw [hx] at this
            rw [show (((16777216 : Nat) : Int)) = 16777216 from rfl] at this; exact this
          have v1 : (N8 : Int) / 16777216 % 18446744073709551616 = (N8 : Int) / 16777216 := by have := HN8.out.2; omega
          have HX : Hid (Pd (p + 4) = x ∧ x < 256) := Lib.hid ⟨by rw [← HP.out, ← HT.out.1, pad_n n F (by decide), HN8.out.1, hx], hx8⟩
          clear hx hx8
          go_wp2_with fail
          clear v0 v1
          refine (HS3.out.call (by have := HT.out; have := HNB.out; omega) HX.out.2 HX.out.1).mono ?_
          rintro e w3 ⟨rfl, hS4⟩
          have HS4 := Lib.hid hS4
          clear hS4
          go_wp2_with fail
          go_roundw
          case rel => exact ⟨5, by decide, rfl, HS4.out⟩
          case measure => decide
        · rw [show (56 - 8 * ((5 : Nat) : Int)) = 16 from rfl]
          obtain ⟨x, hx⟩ : ∃ x, numB N8 8 5 = x := ⟨_, rfl⟩
          have hx8 : x < 256 := by rw [← hx]; exact numB_lt _ _ _
          have v0 : (N8 : Int) / 65536 % 256 = (x : Int) := by
            have := num8 N8 5 65536 (by decide) (by decide)
            rw [hx] at this
            rw [show (((65536 : Nat) : Int)) = 65536 from rfl] at this; exact this
          have v1 : (N8 : Int) / 65536 % 18446744073709551616 = (N8 : Int) / 65536 := by have := HN8.out.2; omega
          have HX : Hid (Pd (p + 5) = x ∧ x < 256) := Lib.hid ⟨by rw [← HP.out, ← HT.out.1, pad_n n F (by decide), HN8.out.1, hx], hx8⟩
          clear hx hx8
          go_wp2_with fail
          clear v0 v1
          refine (HS3.out.call (by have := HT.out; have := HNB.out; omega) HX.out.2 HX.out.1).mono ?_
          rintro e w3 ⟨rfl, hS4⟩
          have HS4 := Lib.hid hS4
          clear hS4
          go_wp2_with fail
          go_roundw
          case rel => exact ⟨6, by decide, rfl, HS4.out⟩
          case measure => decide
        · rw [show (56 - 8 * ((6 : Nat) : Int)) = 8 from rfl]
          obtain ⟨x, hx⟩ : ∃ x, numB N8 8 6 = x := ⟨_, rfl⟩
          have hx8 : x < 256 := by rw [← hx]; exact numB_lt _ _ _
          have v0 : (N8 : Int) / 256 % 256 = (x : Int) := by
            have := num8 N8 6 256 (by decide) (by decide)
            rw [hx] at this
            rw [show (((256 : Nat) : Int)) = 256 from rfl] at this; exact this
          have v1 : (N8 : Int) / 256 % 18446744073709551616 = (N8 : Int) / 256 := by have := HN8.out.2; omega
          have HX : Hid (Pd (p + 6) = x ∧ x < 256) := Lib.hid ⟨by rw [← HP.out, ← HT.out.1, pad_n n F (by decide), HN8.out.1, hx], hx8⟩
          clear hx hx8
          go_wp2_with fail
          clear v0 v1
          refine (HS3.out.call (by have := HT.out; have := HNB.out; omega) HX.out.2 HX.out.1).mono ?_
          rintro e w3 ⟨rfl, hS4⟩
          have HS4 := Lib.hid hS4
          clear hS4
          go_wp2_with fail
          go_roundw
          case rel => exact ⟨7, by decide, rfl, HS4.out⟩
          case measure => decide
        · rw [show (56 - 8 * ((7 : Nat) : Int)) = 0 from rfl]
          obtain ⟨x, hx⟩ : ∃ x, numB N8 8 7 = x := ⟨_, rfl⟩
          have hx8 : x < 256 := by rw [← hx]; exact numB_lt _ _ _
          have v0 : (N8 : Int) % 256 = (x : Int) := by
            have := num8 N8 7 1 (by decide) (by decide)
            rw [hx] at this
            rw [show (((1 : Nat) : Int)) = 1 from rfl, Int.ediv_one] at this; exact this
          have v1 : (N8 : Int) % 18446744073709551616 = (N8 : Int) := by have := HN8.out.2; omega
          have HX : Hid (Pd (p + 7) = x ∧ x < 256) := Lib.hid ⟨by rw [← HP.out, ← HT.out.1, pad_n n F (by decide), HN8.out.1, hx], hx8⟩
          clear hx hx8
          go_wp2_with fail
          clear v0 v1
          refine (HS3.out.call (by have := HT.out; have := HNB.out; omega) HX.out.2 HX.out.1).mono ?_
          rintro e w3 ⟨rfl, hS4⟩
          have HS4 := Lib.hid hS4
          clear hS4
          go_wp2_with fail
          go_roundw
          case rel => exact ⟨8, by decide, rfl, HS4.out⟩
          case measure => decide
        · have HE : Hid (SS w e1 (64 * blkN n) Pd wr) := Lib.hid (by rw [← HT.out.2.2.2.2]; exact HS3.out)
          rw [show (56 - 8 * ((8 : Nat) : Int)) = -8 from rfl]
          obtain ⟨CK, hCK⟩ : ∃ C, chK Pd (blkN n) = C := ⟨_, rfl⟩
          obtain ⟨hgx, R, hB, hRx⟩ := HE.out.h
          rw [show 64 * blkN n / 64 = blkN n by omega, hCK] at hB
          obtain ⟨L1, hL1⟩ : ∃ L, rowW 8 CK = L := ⟨_, rfl⟩
          have HRW : Hid (wr.rangeAt e1 0 L1) := Lib.hid (hL1 ▸ hB.rangeW)
          have HI1 : Hid ((Tryd.prog.info? 194).map (·.size) = some L1.length) := Lib.hid (hL1 ▸ info56l _)
          have HIX : Hid (∀ t w', t < 8 → (Instr.index 194 (.agg L1.toArray) (.int .i64 (t : Nat))).run Tryd.prog w' = .ok (.int .u32 (CK t : Nat)) w') := Lib.hid fun t w' ht => by rw [← hL1]; exact run_index56 _ t ht w'
          have HD0 : Hid (SD w (fun _ => 0) wr) := Lib.hid ⟨HE.out.r, HE.out.s, HE.out.o⟩
          have HDK : Hid (∀ i k, k < 4 → D (4 * i + k) = numB (CK i) 4 k) := Lib.hid fun i k hk => by
            rw [← HDD.out, ← hCK, ← HP.out]; unfold shaN; rw [show (4 * i + k) / 4 = i by omega, show (4 * i + k) % 4 = k by omega]
          have HKL : Hid (∀ i, CK i < 4294967296) := Lib.hid fun i => by rw [← hCK]; exact chK_lt _ _ _
          clear hB hgx hRx hL1 hCK HE HS3 hi
          go_wp2_with (first | (refine wpList_load_mid rfl 194 (.tmp 43) rfl e1 0 rfl L1 _ HRW.out Tryd.underlying194 rfl HI1.out ?_))
          clear HRW HI1
          go_loopw [45] (fun v wr => ∃ i : Nat, i ≤ 8 ∧ v = .int .i64 (i : Int) ∧ SD w (fun j => if j < 4 * i then D j else 0) wr) (fun v _ => 8 - (intOf v).toNat)
          case atStart => exact ⟨0, Nat.zero_le _, rfl, HD0.out.congr fun i _ => (if_neg (Nat.not_lt_zero _)).symm⟩
          case round =>
            clear HD0
            obtain ⟨i, hi, rfl, hX⟩ := hrel
            have HX := Lib.hid hX
            by_cases hli : i < 8
            · have i0 : (0 : Int) ≤ (i : Int) := by omega
              have i1 : (i : Int) < 8 := by omega
              have HIT := Lib.hid (fun w' => HIX.out i w' hli)
              have hV := HKL.out i
              have hat : ∀ k, k < 4 → D (4 * i + k) = numB (CK i) 4 k := fun k hk => HDK.out i k hk
              obtain ⟨V, hVV⟩ : ∃ V, CK i = V := ⟨_, rfl⟩
              rw [hVV] at HIT hV
              simp only [hVV] at hat
              have h0 := hat 0 (by decide); have h1 := hat 1 (by decide); have h2 := hat 2 (by decide); have h3 := hat 3 (by decide)
              have v0 := num4 V 0 16777216 (by decide) (by decide)
              have v1 := num4 V 1 65536 (by decide) (by decide)
              have v2 := num4 V 2 256 (by decide) (by decide)
              have v3 := num4 V 3 1 (by decide) (by decide)
              rw [← h0] at v0
              rw [← h1] at v1
              rw [← h2] at v2
              rw [← h3] at v3
              rw [show (((1 : Nat) : Int)) = 1 from rfl, Int.ediv_one] at v3
              rw [show (((16777216 : Nat) : Int)) = 16777216 from rfl] at v0
              rw [show (((65536 : Nat) : Int)) = 65536 from rfl] at v1
              rw [show (((256 : Nat) : Int)) = 256 from rfl] at v2
              have HN := Lib.hid (show SD w (fun j => if j < 4 * (i + 1) then D j else 0) ((((wr.setCell ⟨w.heap.size + 1, 4 * i, none⟩ (.int .u8 (D (4 * i + 0) : Nat))).setCell ⟨w.heap.size + 1, 4 * i + 1, none⟩ (.int .u8 (D (4 * i + 1) : Nat))).setCell ⟨w.heap.size + 1, 4 * i + 2, none⟩ (.int .u8 (D (4 * i + 2) : Nat))).setCell ⟨w.heap.size + 1, 4 * i + 3, none⟩ (.int .u8 (D (4 * i + 3) : Nat))) from
                ((((hX.set (4 * i) _).set (4 * i + 1) _).set (4 * i + 2) _).set (4 * i + 3) _).congr fun j hj => by
                  unfold upd
                  by_cases e3 : j = 4 * i + 3
                  · subst e3; rw [if_pos rfl, if_pos (by omega)]
                  · rw [if_neg e3]
                    by_cases e2 : j = 4 * i + 2
                    · subst e2; rw [if_pos rfl, if_pos (by omega)]
                    · rw [if_neg e2]
                      by_cases e1 : j = 4 * i + 1
                      · subst e1; rw [if_pos rfl, if_pos (by omega)]
                      · rw [if_neg e1]
                        by_cases e0 : j = 4 * i
                        · subst e0; rw [if_pos rfl, if_pos (by omega)]; rfl
                        · rw [if_neg e0]
                          show (if j < 4 * i then D j else 0) = if j < 4 * (i + 1) then D j else 0
                          by_cases h5 : j < 4 * i
                          · rw [if_pos h5, if_pos (by omega)]
                          · rw [if_neg h5, if_neg (by omega)])
              have cc : ∀ k, k < 4 → wr.cell? ⟨w.heap.size + 1, 4 * i + k, none⟩ = some (.int .u8 0) := fun k hk => hX.s.val (by omega) (if_neg (by omega))
              have c0 := cc 0 (by decide)
              have c1 := cc 1 (by decide)
              have c2 := cc 2 (by decide)
              have c3 := cc 3 (by decide)
              have z0 : wr.frozen? ⟨w.heap.size + 1, 4 * i, none⟩ = false := hX.s.free _
              have z1 : wr.frozen? ⟨w.heap.size + 1, 4 * i + 1, none⟩ = false := hX.s.free _
              have z2 : wr.frozen? ⟨w.heap.size + 1, 4 * i + 2, none⟩ = false := hX.s.free _
              have z3 : wr.frozen? ⟨w.heap.size + 1, 4 * i + 3, none⟩ = false := hX.s.free _
              simp only [Nat.add_zero] at c0 HN v0
              generalize D (4 * i) = b0 at *
              generalize D (4 * i + 1) = b1 at *
              generalize D (4 * i + 2) = b2 at *
              generalize D (4 * i + 3) = b3 at *
              clear cc hat h0 h1 h2 h3 hX HX hVV hi hli
              generalize ((V : Nat) : Int) = VI at *
              go_wp2_with (first | (refine wpList_value rfl (exec_index (.tmp 44) (.tmp 45) rfl rfl rfl (HIT.out _)) ?_))
              go_roundw
              case rel => exact ⟨i + 1, by omega, by go_num, HN.out⟩
              case measure => simp [intOf] <;> omega
            · obtain rfl : i = 8 := by omega
              have hY : RB 63 32 (w.heap.size + 1) D wr := HX.out.s.congr fun j hj => if_pos hj
              have hN : RB 63 32 w.heap.size D (wr.setCells w.heap.size 0 (rowC 32 D).toArray.toList) := Blk.setCells HX.out.r (rowC 32 D) (by rw [rowC_size, rowC_len])
              have hO : Below w.heap.size w (wr.setCells w.heap.size 0 (rowC 32 D).toArray.toList) := HX.out.o.trans ((Own.setCells _ 0 wr).below (Nat.le_refl _) HX.out.o.size)
              have hTH : wr.there w.heap.size 0 (rowC 32 D).toArray.size := Blk.there HX.out.r (by rw [rowC_size, rowC_size]; exact Nat.le_refl _)
              have hI := info27 D
              have hI1 := one32 D
              obtain ⟨E, hE⟩ : ∃ C, (rowC 32 D).toArray = C := ⟨_, rfl⟩
              unfold RB at hN hY
              rw [hE] at hN hY hO hTH hI hI1
              have HN := Lib.hid hN
              have HY := Lib.hid hY
              have HO := Lib.hid hO
              have HTH := Lib.hid hTH
              have HI := Lib.hid hI
              have HI1 := Lib.hid hI1
              have HE := Lib.hid hE
              clear hN hY hO hTH hI hI1 hE hli hi hX HX
              go_wp2_with (first
                | (refine wpList_load_row rfl 63 (.tmp 3) rfl (w.heap.size + 1) rfl 63 E (0, 0) _ HY.out Tryd.underlying63 rfl HI.out ?_)
                | (refine wpList_store_mid rfl 63 (.tmp 2) (.tmp 76) rfl w.heap.size 0 E rfl rfl HTH.out HI.out HI1.out ?_))
              refine bodyPost_ret (v := .agg E) ?_ rfl ⟨by rw [HE.out], HO.out⟩
              exact results_cell_row Tryd.results110 _ _ w.heap.size 63 E (0, 0) _ rfl HN.out Tryd.underlying63 rfl HI.out
end Go.Proofs.YtmabhjifldafaaaDoor
namespace Go.Proofs.YtmabhjifldafaaaDoor
set_option linter.unusedVariables false
set_option linter.unusedSimpArgs false
open Go.RowKit

def okW (W : List Nat) : Bool := (List.range 48).all fun i => spS (fun t => W.getD t 0) (16 + i) == W.getD (16 + i) 0
def okS (W : List Nat) (S : List (List Nat)) : Bool := (List.range 64).all fun t => (List.range 8).all fun j => rdS (fun i => (S.getD t []).getD i 0) (kN t) (W.getD t 0) j == (S.getD (t + 1) []).getD j 0
theorem rdS_congr {v u : Nat → Nat} (h : ∀ j, j < 8 → v j = u j) (k w : Nat) : ∀ j, j < 8 → rdS v k w j = rdS u k w j := fun j hj => by
  have e1 : t1N v k w = t1N u k w := by unfold t1N; rw [h 7 (by decide), h 4 (by decide), h 5 (by decide), h 6 (by decide)]
  have e2 : t2N v = t2N u := by unfold t2N; rw [h 0 (by decide), h 1 (by decide), h 2 (by decide)]
  unfold rdS
  rw [e1, e2, h 3 (by decide)]
  by_cases h0 : j = 0
  · rw [if_pos h0, if_pos h0]
  · rw [if_neg h0, if_neg h0]
    by_cases h4 : j = 4
    · rw [if_pos h4, if_pos h4]
    · rw [if_neg h4, if_neg h4, h _ (by omega)]
theorem mix_cert {H b : Nat → Nat} {Hl W : List Nat} {S : List (List Nat)} (hH : ∀ j, j < 8 → H j = Hl.getD j 0) (hb : ∀ t, t < 16 → wd b t = W.getD t 0) (hW : okW W = true) (h0 : S.getD 0 [] = Hl) (hS : okS W S = true) :
    ∀ j, j < 8 → mixN H b j = ((S.getD 64 []).getD j 0 + Hl.getD j 0) % 4294967296 := by
  have hsp : ∀ n, n ≤ 64 → ∀ t, t < n → spK b 64 t = W.getD t 0 := by
    intro n
    induction n with
    | zero => intro _ t ht; omega
    | succ n ih =>
      intro hn t ht
      by_cases e : t < n
      · exact ih (by omega) t e
      · obtain rfl : t = n := by omega
        by_cases h16 : t < 16
        · rw [spK_lo b h16]; exact hb t h16
        · rw [spK_hi b (by omega) (by omega)]
          have h1 := List.all_eq_true.1 hW (t - 16) (List.mem_range.2 (by omega))
          rw [show 16 + (t - 16) = t by omega] at h1
          have h2 : spS (fun t => W.getD t 0) t = W.getD t 0 := by simpa using h1
          rw [← h2]
          unfold spS
          rw [ih (by omega) (t - 2) (by omega), ih (by omega) (t - 7) (by omega), ih (by omega) (t - 15) (by omega), ih (by omega) (t - 16) (by omega)]
  have hrd : ∀ n, n ≤ 64 → ∀ j, j < 8 → rdK H (spK b 64) n j = (S.getD n []).getD j 0 := by
    intro n
    induction n with
    | zero => intro _ j hj; rw [h0]; exact hH j hj
    | succ n ih =>
      intro hn j hj
      show rdS (rdK H (spK b 64) n) (kN n) (spK b 64 n) j = _
      rw [rdS_congr (ih (by omega)) _ _ j hj, hsp 64 (Nat.le_refl _) n (by omega)]
      have h1 := List.all_eq_true.1 hS n (List.mem_range.2 (by omega))
      have h2 := List.all_eq_true.1 h1 j (List.mem_range.2 hj)
      simpa using h2
  intro j hj
  show (rdK H (spK b 64) 64 j + H j) % 4294967296 = _
  rw [hrd 64 (Nat.le_refl _) j hj, hH j hj]
theorem wd_all {b : Nat → Nat} {W : List Nat} (h : ((List.range 16).all fun t => wd b t == W.getD t 0) = true) : ∀ t, t < 16 → wd b t = W.getD t 0 := fun t ht => by
  simpa using List.all_eq_true.1 h t (List.mem_range.2 ht)
def empW : List Nat := [2147483648, 0, 0, 0, 0, 0, 0, 0, 0, 0, 0, 0, 0, 0, 0, 0, 2147483648, 0, 2117632, 0, 570427392, 0, 84448578, 2147483648, 1476919296, 4235264, 1451269, 1711282176, 3592562048, 337794312, 3594910044, 3374850048, 3287351444, 676112230, 109604294, 2742808854, 1904000662, 4274181962, 2813755136, 2165675682, 2561075048, 62000258, 1562224585, 2975250741, 3286092305, 614207615, 3297584367, 1575308336, 3741240933, 748767245, 1008022316, 30329261, 369937616, 195877528, 907775968, 3526495142, 43741191, 1967544444, 133517113, 4161330627, 3704256008, 1581412744, 1153231965, 996066459]
def empS : List (List Nat) := [[1779033703, 3144134277, 1013904242, 2773480762, 1359893119, 2600822924, 528734635, 1541459225], [2080933965, 1779033703, 3144134277, 1013904242, 415752866, 1359893119, 2600822924, 528734635], [2632279248, 2080933965, 1779033703, 3144134277, 536982102, 415752866, 1359893119, 2600822924], [3299628326, 2632279248, 2080933965, 1779033703, 1876632314, 536982102, 415752866, 1359893119], [1277422283, 3299628326, 2632279248, 2080933965, 808968629, 1876632314, 536982102, 415752866], [1130821424, 1277422283, 3299628326, 2632279248, 3889194014, 808968629, 1876632314, 536982102], [690895682, 1130821424, 1277422283, 3299628326, 1332035834, 3889194014, 808968629, 1876632314], [4028650896, 690895682, 1130821424, 1277422283, 2196627567, 1332035834, 3889194014, 808968629], [2060825014, 4028650896, 690895682, 1130821424, 1408847307, 2196627567, 1332035834, 3889194014], [4113392549, 2060825014, 4028650896, 690895682, 2058339864, 1408847307, 2196627567, 1332035834], [4025007953, 4113392549, 2060825014, 4028650896, 1392976521, 2058339864, 1408847307, 2196627567], [361478433, 4025007953, 4113392549, 2060825014, 3795207118, 1392976521, 2058339864, 1408847307], [4114828352, 361478433, 4025007953, 4113392549, 3621813394, 3795207118, 1392976521, 2058339864], [553833165, 4114828352, 361478433, 4025007953, 3455974994, 3621813394, 3795207118, 1392976521], [1170215847, 553833165, 4114828352, 361478433, 725774998, 3455974994, 3621813394, 3795207118], [3096116699, 1170215847, 553833165, 4114828352, 483372089, 725774998, 3455974994, 3621813394], [3019933109, 3096116699, 1170215847, 553833165, 1555621987, 483372089, 725774998, 3455974994], [1192056138, 3019933109, 3096116699, 1170215847, 1892956839, 1555621987, 483372089, 725774998], [3717831211, 1192056138, 3019933109, 3096116699, 1619825619, 1892956839, 1555621987, 483372089], [812095850, 3717831211, 1192056138, 3019933109, 3550010602, 1619825619, 1892956839, 1555621987], [172493064, 812095850, 3717831211, 1192056138, 2416781228, 3550010602, 1619825619, 1892956839], [1976037592, 172493064, 812095850, 3717831211, 966081741, 2416781228, 3550010602, 1619825619], [2577845017, 1976037592, 172493064, 812095850, 3263666206, 966081741, 2416781228, 3550010602], [1078820948, 2577845017, 1976037592, 172493064, 2976200464, 3263666206, 966081741, 2416781228], [2556161365, 1078820948, 2577845017, 1976037592, 741081741, 2976200464, 3263666206, 966081741], [2062996621, 2556161365, 1078820948, 2577845017, 4116679717, 741081741, 2976200464, 3263666206], [3317175470, 2062996621, 2556161365, 1078820948, 3850028020, 4116679717, 741081741, 2976200464], [747317945, 3317175470, 2062996621, 2556161365, 2677228163, 3850028020, 4116679717, 741081741], [1837942423, 747317945, 3317175470, 2062996621, 1726829818, 2677228163, 3850028020, 4116679717], [1690082844, 1837942423, 747317945, 3317175470, 2506713973, 1726829818, 2677228163, 3850028020], [1926471693, 1690082844, 1837942423, 747317945, 2957685293, 2506713973, 1726829818, 2677228163], [2696613087, 1926471693, 1690082844, 1837942423, 1447716390, 2957685293, 2506713973, 1726829818], [300352095, 2696613087, 1926471693, 1690082844, 3151463532, 1447716390, 2957685293, 2506713973], [3817927606, 300352095, 2696613087, 1926471693, 3436338571, 3151463532, 1447716390, 2957685293], [2705438357, 3817927606, 300352095, 2696613087, 197416927, 3436338571, 3151463532, 1447716390], [1151435175, 2705438357, 3817927606, 300352095, 1769188034, 197416927, 3436338571, 3151463532], [1679812728, 1151435175, 2705438357, 3817927606, 980442793, 1769188034, 197416927, 3436338571], [2694206301, 1679812728, 1151435175, 2705438357, 4206914285, 980442793, 1769188034, 197416927], [1457773646, 2694206301, 1679812728, 1151435175, 3892832895, 4206914285, 980442793, 1769188034], [2656625711, 1457773646, 2694206301, 1679812728, 2242319396, 3892832895, 4206914285, 980442793], [1234768305, 2656625711, 1457773646, 2694206301, 1902882853, 2242319396, 3892832895, 4206914285], [4270245939, 1234768305, 2656625711, 1457773646, 2224585183, 1902882853, 2242319396, 3892832895], [580450446, 4270245939, 1234768305, 2656625711, 4123364073, 2224585183, 1902882853, 2242319396], [3686090155, 580450446, 4270245939, 1234768305, 3762306745, 4123364073, 2224585183, 1902882853], [3907209042, 3686090155, 580450446, 4270245939, 692219050, 3762306745, 4123364073, 2224585183], [2752082644, 3907209042, 3686090155, 580450446, 2855016464, 692219050, 3762306745, 4123364073], [855262251, 2752082644, 3907209042, 3686090155, 3531982457, 2855016464, 692219050, 3762306745], [1419259244, 855262251, 2752082644, 3907209042, 2322236082, 3531982457, 2855016464, 692219050], [911881421, 1419259244, 855262251, 2752082644, 3417569515, 2322236082, 3531982457, 2855016464], [1655188062, 911881421, 1419259244, 855262251, 1286303114, 3417569515, 2322236082, 3531982457], [2543384045, 1655188062, 911881421, 1419259244, 3909789552, 1286303114, 3417569515, 2322236082], [3244542753, 2543384045, 1655188062, 911881421, 906398686, 3909789552, 1286303114, 3417569515], [3579709122, 3244542753, 2543384045, 1655188062, 2710884687, 906398686, 3909789552, 1286303114], [2981272720, 3579709122, 3244542753, 2543384045, 1134943992, 2710884687, 906398686, 3909789552], [974034039, 2981272720, 3579709122, 3244542753, 4254700398, 1134943992, 2710884687, 906398686], [749689034, 974034039, 2981272720, 3579709122, 3850954136, 4254700398, 1134943992, 2710884687], [23298068, 749689034, 974034039, 2981272720, 2918796810, 3850954136, 4254700398, 1134943992], [2126991890, 23298068, 749689034, 974034039, 2035393328, 2918796810, 3850954136, 4254700398], [3891021244, 2126991890, 23298068, 749689034, 3802734300, 2035393328, 2918796810, 3850954136], [3911429062, 3891021244, 2126991890, 23298068, 148956906, 3802734300, 2035393328, 2918796810], [71572494, 3911429062, 3891021244, 2126991890, 2867830852, 148956906, 3802734300, 2035393328], [4095722474, 71572494, 3911429062, 3891021244, 477227836, 2867830852, 148956906, 3802734300], [1586299222, 4095722474, 71572494, 3911429062, 2232532848, 477227836, 2867830852, 148956906], [3717492111, 1586299222, 4095722474, 71572494, 3382061760, 2232532848, 477227836, 2867830852], [2040978907, 3717492111, 1586299222, 4095722474, 3600805733, 3382061760, 2232532848, 477227836]]
theorem emp_w : okW empW = true := by kernel_rfl
theorem emp_s : okS empW empS = true := by kernel_rfl
def abcW : List Nat := [1633837952, 0, 0, 0, 0, 0, 0, 0, 0, 0, 0, 0, 0, 0, 0, 24, 1633837952, 983040, 2108187653, 1610613702, 1050508152, 25426944, 316456923, 3806512014, 3357629466, 3073800610, 3854317833, 845560923, 2636160359, 3968280267, 1881225380, 3552024379, 2482346367, 996719219, 2952069057, 4043988066, 176896406, 1924104970, 2483675966, 610538786, 2672279444, 4037431130, 1042573945, 657669027, 206005234, 2215296807, 2049510749, 106709978, 4215179723, 3430291419, 3118885940, 2845390439, 2226839261, 3256115900, 344409900, 2987358873, 4015503821, 3957764664, 2682456414, 2025622859, 2755645205, 1720397816, 4004225740, 313650667]
def abcS : List (List Nat) := [[1779033703, 3144134277, 1013904242, 2773480762, 1359893119, 2600822924, 528734635, 1541459225], [1567288269, 1779033703, 3144134277, 1013904242, 4197074466, 1359893119, 2600822924, 528734635], [1516951981, 1567288269, 1779033703, 3144134277, 2026797449, 4197074466, 1359893119, 2600822924], [3368241063, 1516951981, 1567288269, 1779033703, 4180228587, 2026797449, 4197074466, 1359893119], [3578852966, 3368241063, 1516951981, 1567288269, 618661968, 4180228587, 2026797449, 4197074466], [71342698, 3578852966, 3368241063, 1516951981, 1135452741, 618661968, 4180228587, 2026797449], [725748213, 71342698, 3578852966, 3368241063, 1900175533, 1135452741, 618661968, 4180228587], [3842179968, 725748213, 71342698, 3578852966, 2603066369, 1900175533, 1135452741, 618661968], [2241887071, 3842179968, 725748213, 71342698, 207977081, 2603066369, 1900175533, 1135452741], [2382687417, 2241887071, 3842179968, 725748213, 852110732, 207977081, 2603066369, 1900175533], [2357671019, 2382687417, 2241887071, 3842179968, 482944406, 852110732, 207977081, 2603066369], [1201185780, 2357671019, 2382687417, 2241887071, 1131095016, 482944406, 852110732, 207977081], [4146054569, 1201185780, 2357671019, 2382687417, 2171590377, 1131095016, 482944406, 852110732], [2274437520, 4146054569, 1201185780, 2357671019, 509051416, 2171590377, 1131095016, 482944406], [3643992854, 2274437520, 4146054569, 1201185780, 1952073950, 509051416, 2171590377, 1131095016], [3227803614, 3643992854, 2274437520, 4146054569, 194179596, 1952073950, 509051416, 2171590377], [2969183118, 3227803614, 3643992854, 2274437520, 123276749, 194179596, 1952073950, 509051416], [567974555, 2969183118, 3227803614, 3643992854, 2150900380, 123276749, 194179596, 1952073950], [3271285201, 567974555, 2969183118, 3227803614, 2221859924, 2150900380, 123276749, 194179596], [4269243327, 3271285201, 567974555, 2969183118, 3431569761, 2221859924, 2150900380, 123276749], [3790736435, 4269243327, 3271285201, 567974555, 2959311225, 3431569761, 2221859924, 2150900380], [2647034723, 3790736435, 4269243327, 3271285201, 2329577776, 2959311225, 3431569761, 2221859924], [3261099373, 2647034723, 3790736435, 4269243327, 3777329520, 2329577776, 2959311225, 3431569761], [2812502591, 3261099373, 2647034723, 3790736435, 1240797514, 3777329520, 2329577776, 2959311225], [3319086477, 2812502591, 3261099373, 2647034723, 2856829767, 1240797514, 3777329520, 2329577776], [472655928, 3319086477, 2812502591, 3261099373, 673443729, 2856829767, 1240797514, 3777329520], [3454534525, 472655928, 3319086477, 2812502591, 339230094, 673443729, 2856829767, 1240797514], [3056518332, 3454534525, 472655928, 3319086477, 3343672598, 339230094, 673443729, 2856829767], [2010346792, 3056518332, 3454534525, 472655928, 3992961016, 3343672598, 339230094, 673443729], [909411017, 2010346792, 3056518332, 3454534525, 1628611511, 3992961016, 3343672598, 339230094], [2684750640, 909411017, 2010346792, 3056518332, 2917635127, 1628611511, 3992961016, 3343672598], [3935906338, 2684750640, 909411017, 2010346792, 17410874, 2917635127, 1628611511, 3992961016], [1941126133, 3935906338, 2684750640, 909411017, 3126399250, 17410874, 2917635127, 1628611511], [2564891911, 1941126133, 3935906338, 2684750640, 2631529974, 3126399250, 17410874, 2917635127], [4267724277, 2564891911, 1941126133, 3935906338, 1495571923, 2631529974, 3126399250, 17410874], [2846323596, 4267724277, 2564891911, 1941126133, 140458035, 1495571923, 2631529974, 3126399250], [1705037796, 2846323596, 4267724277, 2564891911, 4105175766, 140458035, 1495571923, 2631529974], [1101421745, 1705037796, 2846323596, 4267724277, 124953195, 4105175766, 140458035, 1495571923], [887035396, 1101421745, 1705037796, 2846323596, 2768741693, 124953195, 4105175766, 140458035], [1841658506, 887035396, 1101421745, 1705037796, 4034403272, 2768741693, 124953195, 4105175766], [2045405306, 1841658506, 887035396, 1101421745, 519815328, 4034403272, 2768741693, 124953195], [3597076326, 2045405306, 1841658506, 887035396, 641019235, 519815328, 4034403272, 2768741693], [3745932591, 3597076326, 2045405306, 1841658506, 2206934801, 641019235, 519815328, 4034403272], [397020670, 3745932591, 3597076326, 2045405306, 3737995029, 2206934801, 641019235, 519815328], [2638983059, 397020670, 3745932591, 3597076326, 4255271982, 3737995029, 2206934801, 641019235], [643991573, 2638983059, 397020670, 3745932591, 2819559920, 4255271982, 3737995029, 2206934801], [1923828625, 643991573, 2638983059, 397020670, 3077922209, 2819559920, 4255271982, 3737995029], [2706117808, 1923828625, 643991573, 2638983059, 3581645993, 3077922209, 2819559920, 4255271982], [1098003085, 2706117808, 1923828625, 643991573, 4274981830, 3581645993, 3077922209, 2819559920], [91585771, 1098003085, 2706117808, 1923828625, 3178315832, 4274981830, 3581645993, 3077922209], [4045142696, 91585771, 1098003085, 2706117808, 1851537676, 3178315832, 4274981830, 3581645993], [2047150241, 4045142696, 91585771, 1098003085, 1391578359, 1851537676, 3178315832, 4274981830], [2288941602, 2047150241, 4045142696, 91585771, 1227037726, 1391578359, 1851537676, 3178315832], [270520975, 2288941602, 2047150241, 4045142696, 1386118400, 1227037726, 1391578359, 1851537676], [4117770203, 270520975, 2288941602, 2047150241, 2672265155, 1386118400, 1227037726, 1391578359], [1053056219, 4117770203, 270520975, 2288941602, 3842906959, 2672265155, 1386118400, 1227037726], [952932627, 1053056219, 4117770203, 270520975, 1422599787, 3842906959, 2672265155, 1386118400], [4241590395, 952932627, 1053056219, 4117770203, 2606665836, 1422599787, 3842906959, 2672265155], [3227702383, 4241590395, 952932627, 1053056219, 2118385806, 2606665836, 1422599787, 3842906959], [4290184306, 3227702383, 4241590395, 952932627, 1837350854, 2118385806, 2606665836, 1422599787], [3064893439, 4290184306, 3227702383, 4241590395, 2988158269, 1837350854, 2118385806, 2606665836], [3093179625, 3064893439, 4290184306, 3227702383, 2518632596, 2988158269, 1837350854, 2118385806], [80891244, 3093179625, 3064893439, 4290184306, 2492278198, 2518632596, 2988158269, 1837350854], [3550093669, 80891244, 3093179625, 3064893439, 4212265488, 2492278198, 2518632596, 2988158269], [1349398616, 3550093669, 80891244, 3093179625, 1593118500, 4212265488, 2492278198, 2518632596]]
theorem abc_w : okW abcW = true := by kernel_rfl
theorem abc_s : okS abcW abcS = true := by kernel_rfl
theorem emp_mix (F : Nat → Nat) (j : Nat) (hj : j < 8) : chK (padN 0 F) (blkN 0) j = ((empS.getD 64 []).getD j 0 + hTab.getD j 0) % 4294967296 :=
  mix_cert (H := hN) (b := fun i => padN 0 F (64 * 0 + i)) (fun j _ => rfl) (wd_all (by kernel_rfl)) emp_w (by kernel_rfl) emp_s j hj
def abcF : Nat → Nat := fun i => if i = 0 then 97 else if i = 1 then 98 else 99
theorem abc_mix (j : Nat) (hj : j < 8) : chK (padN 3 abcF) (blkN 3) j = ((abcS.getD 64 []).getD j 0 + hTab.getD j 0) % 4294967296 :=
  mix_cert (H := hN) (b := fun i => padN 3 abcF (64 * 0 + i)) (fun j _ => rfl) (wd_all (by kernel_rfl)) abc_w (by kernel_rfl) abc_s j hj
theorem emp_0 (F : Nat → Nat) : shaN 0 F 0 = 227 := by show numB (chK (padN 0 F) (blkN 0) 0) 4 0 = 227; rw [emp_mix F 0 (by decide)]; kernel_rfl
theorem emp_1 (F : Nat → Nat) : shaN 0 F 1 = 176 := by show numB (chK (padN 0 F) (blkN 0) 0) 4 1 = 176; rw [emp_mix F 0 (by decide)]; kernel_rfl
theorem emp_31 (F : Nat → Nat) : shaN 0 F 31 = 85 := by show numB (chK (padN 0 F) (blkN 0) 7) 4 3 = 85; rw [emp_mix F 7 (by decide)]; kernel_rfl
theorem abc_0 : shaN 3 abcF 0 = 186 := by show numB (chK (padN 3 abcF) (blkN 3) 0) 4 0 = 186; rw [abc_mix 0 (by decide)]; kernel_rfl
theorem abc_31 : shaN 3 abcF 31 = 173 := by show numB (chK (padN 3 abcF) (blkN 3) 7) 4 3 = 173; rw [abc_mix 7 (by decide)]; kernel_rfl

theorem eqF_refl32 (f : Nat → Nat) : ((List.range 32).all fun i => f i == f i) = true := List.all_eq_true.2 fun _ _ => by simp
theorem plain_u8 : Tryd.prog.plainKey 5 = true := by kernel_rfl
theorem cells_u8 : Tryd.prog.cellsOf 5 = 1 := by kernel_rfl
theorem items32 (f g : Nat → Nat) (w : World) : ∀ is : List Nat, (∀ i ∈ is, i < 32) → (Op.eqItems 9999 5 1 (rowC 32 f).toArray (rowC 32 g).toArray is).run Tryd.prog w = .ok (is.all fun i => f i == g i) w
  | [], _ => rfl
  | i :: is, h => by
    have hi : i < 32 := h i (by simp)
    have p1 : (rowC 32 f).toArray[i * 1]? = some (.int .u8 (f i : Nat)) := by simpa using rowC_get f hi
    have p2 : (rowC 32 g).toArray[i * 1]? = some (.int .u8 (g i : Nat)) := by simpa using rowC_get g hi
    have hu : Tryd.prog.underlying 5 = some (.int .u8) := Tryd.underlying5
    simp only [Op.eqItems, Sem.run_bind, run_part_plain w plain_u8 p1, run_part_plain w plain_u8 p2, Result.andThen_ok, run_equalIn_int w 9998 _ .u8 .u8 _ _ hu]
    have ih := items32 f g w is (fun j hj => h j (by simp [hj]))
    by_cases e : f i = g i
    · have : ((f i : Int) == (g i : Int)) = true := by simp [e]
      rw [this]
      simp [ih, e]
    · have : ((f i : Int) == (g i : Int)) = false := by
        rw [beq_eq_false_iff_ne]; omega
      rw [this]
      simp [e]
def eqS (f g : Nat → Nat) : Bool := (List.range 32).all fun i => f i == g i
theorem eqS_refl (f : Nat → Nat) : eqS f f = true := eqF_refl32 f
theorem eqS_iff {f g : Nat → Nat} : eqS f g = true ↔ ∀ i, i < 32 → f i = g i := by
  unfold eqS; rw [List.all_eq_true]
  constructor
  · intro h i hi; simpa using h i (List.mem_range.2 hi)
  · intro h i hi; simpa using h i (List.mem_range.1 hi)
set_option maxRecDepth 100000 in
theorem eq32 (f g : Nat → Nat) (w : World) : (Op.equalIn 10000 63 (.agg (rowC 32 f).toArray) (.agg (rowC 32 g).toArray)).run Tryd.prog w = .ok (eqS f g) w := by
  obtain ⟨i, hi⟩ : ∃ i, Tryd.prog.info? 5 = some i := ⟨_, rfl⟩
  rw [run_equalIn_array w 9999 _ _ (e := 5) (n := 32) (t := 63) Tryd.underlying63 hi, cells_u8]
  exact items32 f g w _ (fun i hi => List.mem_range.1 hi)
theorem guard32 : Tryd.prog.eqGuardType Tryd.prog.depth 63 = false := by kernel_rfl
theorem exec_eql32 {o : Oper} {a : Act} {w : World} {x y : Operand} {r : TypeId} {C D : Array Value} {b : Bool} (ho : o.op = .binOp .eql 63 x y r) (hx : a.eval x = .agg C) (hy : a.eval y = .agg D) (h : ∀ w, (Op.equalIn 10000 63 (.agg C) (.agg D)).run Tryd.prog w = .ok b w) : (execOp a.eval o).run Tryd.prog w = .ok (.value (.bool b)) w := by
  unfold execOp
  simp only [ho, hx, hy, Sem.run_bind, run_eqGuard_agg w _ _ x y C D guard32, Result.andThen_ok, run_eql_struct, h]
  rfl
theorem exec_neq32 {o : Oper} {a : Act} {w : World} {x y : Operand} {r : TypeId} {C D : Array Value} {b : Bool} (ho : o.op = .binOp .neq 63 x y r) (hx : a.eval x = .agg C) (hy : a.eval y = .agg D) (h : ∀ w, (Op.equalIn 10000 63 (.agg C) (.agg D)).run Tryd.prog w = .ok b w) : (execOp a.eval o).run Tryd.prog w = .ok (.value (.bool (!b))) w := by
  unfold execOp
  simp only [ho, hx, hy, Sem.run_bind, run_eqGuard_agg w _ _ x y C D guard32, Result.andThen_ok, run_neq_struct, h]
  rfl
theorem HS.cat0 {w : World} {g m : Nat} {F G : Nat → Nat} (h : HS w g (0 + m) (catF 0 F G)) : HS w g m G := by
  rw [Nat.zero_add] at h
  exact h.congr fun i hi => by unfold catF; rw [if_neg (by omega), Nat.sub_zero]
set_option maxRecDepth 100000 in
set_option maxHeartbeats 4000000 in
theorem hash_any (oa : Option Addr) (m cap : Nat) (G : Nat → Nat) (w : World) (hb : Bytes w oa m G) (hmc : m ≤ cap) (hm : m < 800000000000) (hg : GV w) :
    Calls Tryd.prog 107 #[.slice oa m cap] w fun e w' => e = .returned (.agg (rowC 32 (shaN m G)).toArray) ∧ Below w.heap.size w w' := by
  have hz := zero32_run
  obtain ⟨wa, hwa⟩ : ∃ q, w.alloc (.cells zero32 63) = q := ⟨_, rfl⟩
  have hba : Below w.heap.size w wa := by rw [← hwa]; exact (Below.refl _ _).alloc (Nat.le_refl _) _
  have H1 : Hid (RB 63 32 w.heap.size (fun _ => 0) wa ∧ Below w.heap.size w wa ∧ GV wa ∧ Bytes wa oa m G) := Lib.hid ⟨by rw [← hwa]; exact Blk.new w _ _, hba, hg.later hba, hb.later hba⟩
  have HMC := Lib.hid hmc
  have HM := Lib.hid hm
  obtain ⟨D, hD⟩ : ∃ D, shaN m G = D := ⟨_, rfl⟩
  obtain ⟨E, hE⟩ : ∃ C, (rowC 32 D).toArray = C := ⟨_, rfl⟩
  have HSM : Hid (∀ g w', HS w' g m G → GV w' → Calls Tryd.prog 110 #[.pointer (some ⟨g, 0, none⟩)] w' fun e w'' => e = .returned (.agg E) ∧ Below w'.heap.size w' w'') := Lib.hid fun g w' h h' => by
    rw [← hE, ← hD]; exact hsum_any g m G w' h (by omega) h'
  have HI : Hid ((Tryd.prog.info? 63).map (·.size) = some E.size) := Lib.hid (hE ▸ info27 _)
  have HI1 : Hid (E.all (·.oneCell') = true) := Lib.hid (hE ▸ one32 _)
  have HST : Hid (∀ w', RB 63 32 w.heap.size (fun _ => 0) w' → Blk (w'.setCells w.heap.size 0 E.toList) w.heap.size E 63 ∧ w'.there w.heap.size 0 E.size) := Lib.hid fun w' h => by
    rw [← hE]; exact ⟨Blk.setCells h (rowC 32 D) (by rw [rowC_size, rowC_len]), Blk.there h (by rw [rowC_size, rowC_size]; exact Nat.le_refl _)⟩
  rw [hD, hE]
  clear hb hmc hm hg hD hE hba
  go_enter Tryd.func107, Tryd.ntmps107
  go_wp2_with fail
  clear hz hwa
  refine (hnew_any _ H1.out.2.2.1).mono ?_
  rintro e w1 ⟨g, rfl, hN, hb1, hge⟩
  have H2 : Hid (RB 63 32 w.heap.size (fun _ => 0) w1 ∧ Below w.heap.size w w1 ∧ GV w1 ∧ Bytes w1 oa m G ∧ HS w1 g 0 G ∧ (∀ a, oa = some a → 0 < m → a.block ≠ g) ∧ w.heap.size < g) := Lib.hid (by
    obtain ⟨a1, a2, a3, a4⟩ := H1.out
    have hlt := Blk.lt a1
    refine ⟨Blk.below a1 hb1 hlt, a2.trans (hb1.mono a2.size), a3.later hb1, a4.later hb1, hN G, fun a ha hm => ?_, by omega⟩
    have := a4.lt a ha hm; omega)
  clear hN hb1 hge H1
  go_wp2_with fail
  refine (write_any g 0 m cap oa G G _ H2.out.2.2.2.2.1 H2.out.2.2.2.1 HMC.out H2.out.2.2.2.2.2.1 (by have := HM.out; omega) H2.out.2.2.1).mono ?_
  rintro e w2 ⟨rfl, hS, hO⟩
  have H3 : Hid (RB 63 32 w.heap.size (fun _ => 0) w2 ∧ Below w.heap.size w w2 ∧ GV w2 ∧ HS w2 g m G) := Lib.hid (by
    obtain ⟨a1, a2, a3, a4, a5, a6, a7⟩ := H2.out
    exact ⟨hO.blk a1 (by omega), a2.trans (hO.below (by omega) a2.size), a3.own hO a5.1.1 a5.1.2, hS.cat0⟩)
  clear hS hO H2
  go_wp2_with fail
  refine (HSM.out _ _ H3.out.2.2.2 H3.out.2.2.1).mono ?_
  rintro e w3 ⟨rfl, hb3⟩
  have H4 : Hid (RB 63 32 w.heap.size (fun _ => 0) w3 ∧ Below w.heap.size w w3) := Lib.hid (by
    obtain ⟨a1, a2, a3, a4⟩ := H3.out
    exact ⟨Blk.below a1 hb3 (Blk.lt a1), a2.trans (hb3.mono a2.size)⟩)
  clear hb3 H3
  have HX := Lib.hid (HST.out _ H4.out.1)
  have HO : Hid (Below w.heap.size w (w3.setCells w.heap.size 0 E.toList)) := Lib.hid (H4.out.2.trans ((Own.setCells _ 0 w3).below (Nat.le_refl _) H4.out.2.size))
  go_wp2_with (first | (refine wpList_store_mid rfl 63 (.tmp 2) (.tmp 9) rfl w.heap.size 0 E rfl rfl HX.out.2 HI.out HI1.out ?_))
  refine bodyPost_ret (v := .agg E) ?_ rfl ⟨rfl, HO.out⟩
  exact results_cell_row Tryd.results107 _ _ w.heap.size 63 E (0, 0) _ rfl HX.out.1 Tryd.underlying63 rfl HI.out
end Go.Proofs.YtmabhjifldafaaaDoor
namespace Go.Proofs.YtmabhjifldafaaaDoor
set_option linter.unusedVariables false
set_option linter.unusedSimpArgs false
open Go.RowKit

theorem exec_load32 {o : Oper} {a : Act} {w : World} {g : Nat} {C : Array Value} {x : Operand} (ho : o.op = .load 63 x) (hx : a.eval x = .pointer (some ⟨g, 0, none⟩)) (hB : Blk w g C 63) (hs : (Tryd.prog.info? 63).map (·.size) = some C.size) : (execOp a.eval o).run Tryd.prog w = .ok (.value (.agg C)) w := by
  unfold execOp
  simp only [ho, hx, Instr.loadAt, Instr.sureAddr, Sem.run_bind, Sem.run_pure, Result.andThen_ok, run_loadVar_row w g 63 63 C (0, 0) _ hB Tryd.underlying63 rfl hs]
theorem RB.int {t : TypeId} {n g : Nat} {f : Nat → Nat} {w : World} (h : RB t n g f w) {i : Nat} {x : Int} (hi : i < n) (hx : (f i : Int) = x) : w.cell? ⟨g, i, none⟩ = some (.int .u8 x) := by rw [← hx]; exact h.cell hi
theorem conv25 (w : World) : (convert 33 33 (.slice (some ⟨w.heap.size, 0, none⟩) 3 3)).run Tryd.prog (w.alloc (.cells #[.int .u8 97, .int .u8 98, .int .u8 99] 5)) = .ok (.slice (some ⟨w.heap.size, 0, none⟩) 3 3) (w.alloc (.cells #[.int .u8 97, .int .u8 98, .int .u8 99] 5 (3, 4))) :=
  Joins.run_convert_bytes_const_at (P := Tryd.prog) w 33 5 #[.int .u8 97, .int .u8 98, .int .u8 99] 3 3 w.heap.size rfl Tryd.underlying33 Tryd.underlying5
/-- Two sums. -/
def S2 (g1 g2 : Nat) (D E : Nat → Nat) (w : World) : Prop := RB 63 32 g1 D w ∧ RB 63 32 g2 E w
theorem S2.below {g1 g2 : Nat} {D E : Nat → Nat} {w w' : World} (h : S2 g1 g2 D E w) (hb : Below w.heap.size w w') : S2 g1 g2 D E w' := ⟨Blk.below h.1 hb (Blk.lt h.1), Blk.below h.2 hb (Blk.lt h.2)⟩
theorem three_bytes {w : World} : Bytes (w.alloc (.cells #[.int .u8 97, .int .u8 98, .int .u8 99] 5 (3, 4))) (some ⟨w.heap.size, 0, none⟩) 3 abcF := fun k hk => by
  rcases (by omega : k = 0 ∨ k = 1 ∨ k = 2) with rfl | rfl | rfl
  · exact ⟨by decide, w.heap.size, 0, rfl, World.cell?_alloc_mark w #[.int .u8 97, .int .u8 98, .int .u8 99] 5 (3, 4) 0⟩
  · exact ⟨by decide, w.heap.size, 0, rfl, World.cell?_alloc_mark w #[.int .u8 97, .int .u8 98, .int .u8 99] 5 (3, 4) 1⟩
  · exact ⟨by decide, w.heap.size, 0, rfl, World.cell?_alloc_mark w #[.int .u8 97, .int .u8 98, .int .u8 99] 5 (3, 4) 2⟩
/-- A sum, laid in a block of its own. -/
theorem lay32 (w : World) (D : Nat → Nat) {E : Array Value} (hE : (rowC 32 D).toArray = E) : RB 63 32 w.heap.size D ((w.alloc (.cells zero32 63)).setCells w.heap.size 0 E.toList) ∧ Below w.heap.size w ((w.alloc (.cells zero32 63)).setCells w.heap.size 0 E.toList) ∧ (w.alloc (.cells zero32 63)).there w.heap.size 0 E.size := by
  subst hE
  have hA : RB 63 32 w.heap.size (fun _ => 0) (w.alloc (.cells zero32 63)) := Blk.new w _ _
  have hb : Below w.heap.size w (w.alloc (.cells zero32 63)) := (Below.refl _ _).alloc (Nat.le_refl _) _
  exact ⟨Blk.setCells hA (rowC 32 D) (by rw [rowC_size, rowC_len]), hb.trans ((Own.setCells _ 0 _).below (Nat.le_refl _) hb.size), Blk.there hA (by rw [rowC_size, rowC_size]; exact Nat.le_refl _)⟩
end Go.Proofs.YtmabhjifldafaaaDoor
