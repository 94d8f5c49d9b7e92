/- A hash: made, cloned. A hash: bytes written into it. -/
import Derived.Test.YtncfocjmdecapaaGreatDoorZB0
import Derived.Test.YtncfocjmdecapaaGreatDoorZS1
import Derived.Test.YtncfocjmdecapaaGreatDoorZS2
import Derived.Test.YtncfocjmdecapaaGreatDoorZSh4
import Derived.Test.YtncfocjmdecapaaGreatDoorZA0
namespace Go.Proofs.YtncfocjmdecapaaGreatDoor
set_option linter.unusedVariables false
set_option linter.unusedSimpArgs false
open Go.RowKit
theorem Own.setRow {g : Nat} (w : World) (cs : Array Value) : Own g w (w.setRow g cs) := ⟨rfl, rfl, rfl, by simp, fun k _ hn => setRow_other w g k cs hn⟩
theorem Blk.setRow {w : World} {g : Nat} {C : Array Value} {t : TypeId} (h : Blk w g C t) (D : Array Value) : Blk (w.setRow g D) g D t := setRow_heap w g C D t (0, 0) h
/-- n bytes were written into a hash, as F tells them. -/
def HS (w : World) (g n : Nat) (F : Nat → Nat) : Prop := (g ≠ 1 ∧ g ≠ 2) ∧ ∃ R, HB w g (chK F (n / 64)) R (n % 64) n ∧ (∀ i, i < n % 64 → R i = F (64 * (n / 64) + i)) ∧ ∀ i, i < 64 → R i < 256
theorem HS.congr {w : World} {g n : Nat} {F G : Nat → Nat} (h : HS w g n F) (he : ∀ i, i < n → F i = G i) : HS w g n G := by
  obtain ⟨h0, R, h1, h2, h3⟩ := h
  refine ⟨h0, R, ?_, fun i hi => ?_, h3⟩
  · rw [← chK_congr (n / 64) (fun i hi => he i (by omega))]; exact h1
  · rw [h2 i hi, he _ (by omega)]
theorem HS.lt {w : World} {g n : Nat} {F : Nat → Nat} (h : HS w g n F) : g < w.heap.size := by
  obtain ⟨_, R, h1, _⟩ := h; exact Blk.lt h1
theorem HS.later {w w' : World} {g n : Nat} {F : Nat → Nat} (h : HS w g n F) (hb : Below w.heap.size w w') : HS w' g n F := by
  obtain ⟨h0, R, h1, h2, h3⟩ := h; exact ⟨h0, R, Blk.below h1 hb (Blk.lt h1), h2, h3⟩
theorem HS.own {w w' : World} {g b n : Nat} {F : Nat → Nat} (h : HS w g n F) (hO : Own b w w') (hn : g ≠ b) : HS w' g n F := by
  obtain ⟨h0, R, h1, h2, h3⟩ := h; exact ⟨h0, R, hO.blk h1 hn, h2, h3⟩
theorem build60 (H : Nat → Nat) (w : World) : (Instr.build 162 #[(0, .agg (rowW 8 H).toArray)]).run Tryz.prog w = .ok (.agg (hshC H (fun _ => 0) 0 0).toArray) w :=
  run_build w 162 _ _ (by kernel_rfl)
theorem exec_buildH {o : Oper} {a : Act} {w : World} {C : Array Value} {parts : Array (Nat × Operand)} {ps : Array (Nat × Value)} (ho : o.op = .build 162 parts) (hp : (parts.map fun (i, x) => (i, a.eval x)) = ps) (h : ∀ w, (Instr.build 162 ps).run Tryz.prog w = .ok (.agg C) w) : (execOp a.eval o).run Tryz.prog w = .ok (.value (.agg C)) w := by
  unfold execOp
  simp only [ho, hp, Sem.run_bind, h, Result.andThen_ok]
  rfl
theorem info60 (H R : Nat → Nat) (k n : Nat) : (Tryz.prog.info? 162).map (·.size) = some (hshC H R k n).toArray.size := by rw [hshC_size]; kernel_rfl
theorem one60 (H R : Nat → Nat) (k n : Nat) : (hshC H R k n).toArray.all (·.oneCell') = true := all_oneCell_toArray (hshC_one _ _ _ _)
def zero74 : Array Value := (hshC (fun _ => 0) (fun _ => 0) 0 0).toArray
theorem zero74_run (w : World) : (zeroValue 162).run Tryz.prog w = .ok (.agg zero74) w := by kernel_rfl
theorem GV.range {w : World} (h : GV w) : w.rangeAt 1 0 (rowW 8 hN) := fun j v hv => by
  have hj : j < 8 := by have := (List.getElem?_eq_some_iff.1 hv).1; rw [rowW_len] at this; exact this
  rw [rowW_get hN hj] at hv
  rw [Nat.zero_add, h.1 j hj]; exact hv
theorem info56l (v : Nat → Nat) : (Tryz.prog.info? 149).map (·.size) = some (rowW 8 v).length := by rw [rowW_len]; kernel_rfl
theorem info57l (v : Nat → Nat) : (Tryz.prog.info? 124).map (·.size) = some (rowC 64 v).length := by rw [rowC_len]; kernel_rfl
set_option maxRecDepth 100000 in
set_option maxHeartbeats 1000000 in
theorem hnew_any (w : World) (hg : GV w) :
    Calls Tryz.prog 84 #[] w fun e w' => ∃ g, e = .returned (.pointer (some ⟨g, 0, none⟩)) ∧ (∀ F, HS w' g 0 F) ∧ Below w.heap.size w w' ∧ w.heap.size ≤ g := by
  have hl := hg.lt
  obtain ⟨L, hL⟩ : ∃ L, rowW 8 hN = L := ⟨_, rfl⟩
  obtain ⟨C, hC⟩ : ∃ C, (hshC hN (fun _ => 0) 0 0).toArray = C := ⟨_, rfl⟩
  have HR : Hid (w.rangeAt 1 0 L) := Lib.hid (by rw [← hL]; exact hg.range)
  have HI : Hid ((Tryz.prog.info? 149).map (·.size) = some L.length) := Lib.hid (by rw [← hL]; exact info56l _)
  have HB : Hid (∀ w', (Instr.build 162 #[(0, .agg L.toArray)]).run Tryz.prog w' = .ok (.agg C) w') := Lib.hid fun w' => by rw [← hL, build60, hC]
  have HN : Hid (∀ F, HS (w.alloc (.cells C 162)) w.heap.size 0 F) := Lib.hid fun F => by
    refine ⟨⟨by omega, by omega⟩, fun _ => 0, ?_, fun i hi => ?_, fun i _ => by show 0 < _; decide⟩
    · rw [← hC]; exact Blk.new w _ _
    · rw [Nat.zero_mod] at hi; exact absurd hi (Nat.not_lt_zero _)
  clear hl hL hC hg
  go_enter Tryz.func84, Tryz.ntmps84
  go_wp2_with (first
    | (refine wpList_load_mid rfl 149 (.global 1) rfl 1 0 rfl L _ HR.out Tryz.underlying149 rfl HI.out ?_)
    | (refine wpList_value rfl (exec_buildH (parts := #[(0, .tmp 1)]) (ps := #[(0, .agg L.toArray)]) rfl (by simp; rfl) HB.out) ?_))
  go_ret
  exact ⟨_, rfl, HN.out, (Below.refl _ _).alloc (Nat.le_refl _) _, Nat.le_refl _⟩
set_option maxRecDepth 100000 in
set_option maxHeartbeats 1000000 in
theorem hclone_any (g n : Nat) (F : Nat → Nat) (w : World) (h : HS w g n F) (hg : GV w) :
    Calls Tryz.prog 65 #[.pointer (some ⟨g, 0, none⟩)] w fun e w' => ∃ g', e = .returned (.pointer (some ⟨g', 0, none⟩)) ∧ HS w' g' n F ∧ Below w.heap.size w w' ∧ w.heap.size ≤ g' := by
  have hl := hg.lt
  obtain ⟨_, R, hB, hR1, hR2⟩ := h
  have hz := zero74_run
  obtain ⟨wa, hwa⟩ : ∃ q, w.alloc (.cells zero74 162) = q := ⟨_, rfl⟩
  have hba : Below w.heap.size w wa := by rw [← hwa]; exact (Below.refl _ _).alloc (Nat.le_refl _) _
  have hA : HB wa w.heap.size (fun _ => 0) (fun _ => 0) 0 0 := by rw [← hwa]; exact Blk.new w _ _
  have hI := info60 (chK F (n / 64)) R (n % 64) n
  have hI1 := one60 (chK F (n / 64)) R (n % 64) n
  have hTH : wa.there w.heap.size 0 (hshC (chK F (n / 64)) R (n % 64) n).toArray.size := Blk.there hA (by rw [hshC_size, hshC_size]; exact Nat.le_refl _)
  have hN : HB (wa.setCells w.heap.size 0 (hshC (chK F (n / 64)) R (n % 64) n).toArray.toList) w.heap.size (chK F (n / 64)) R (n % 64) n := Blk.setCells hA (hshC _ _ _ _) (by rw [hshC_size, hshC_len])
  have hO : Below w.heap.size w (wa.setCells w.heap.size 0 (hshC (chK F (n / 64)) R (n % 64) n).toArray.toList) := hba.trans ((Own.setCells _ 0 wa).below (Nat.le_refl _) hba.size)
  obtain ⟨C, hC⟩ : ∃ C, (hshC (chK F (n / 64)) R (n % 64) n).toArray = C := ⟨_, rfl⟩
  have hNN : HS (wa.setCells w.heap.size 0 C.toList) w.heap.size n F := ⟨⟨by omega, by omega⟩, R, by rw [← hC]; exact hN, hR1, hR2⟩
  unfold HB at hB
  rw [hC] at hB hI hI1 hTH hO
  have HB1 := Lib.hid hB
  have HI := Lib.hid hI
  have HI1 := Lib.hid hI1
  have HTH := Lib.hid hTH
  have HO := Lib.hid hO
  have HN := Lib.hid hNN
  clear hl hB hI hI1 hTH hO hN hNN hA hba hC hR1 hR2 hg
  go_enter Tryz.func65, Tryz.ntmps65
  go_wp2_with (first
    | (refine wpList_load_row rfl 162 (.tmp 7) rfl g rfl 162 C (0, 0) _ HB1.out Tryz.underlying162 rfl HI.out ?_)
    | (refine wpList_store_mid rfl 162 (.tmp 3) (.tmp 8) rfl w.heap.size 0 C rfl rfl HTH.out HI.out HI1.out ?_))
  go_ret
  exact ⟨_, rfl, HN.out, HO.out, Nat.le_refl _⟩
end Go.Proofs.YtncfocjmdecapaaGreatDoor
namespace Go.Proofs.YtncfocjmdecapaaGreatDoor
set_option linter.unusedVariables false
set_option linter.unusedSimpArgs false
open Go.RowKit
def lenV : Value → Nat
  | .slice _ n _ => n
  | _ => 0
theorem info_u8s : (Tryz.prog.info? 5).map (·.size) = some 1 := by kernel_rfl
/-- Behind p bytes of those that are written; how many were written is told ahead. -/
def WI (F : Nat → Nat) (g N p : Nat) (wr : World) : Prop := ∃ R, HB wr g (chK F (p / 64)) R (p % 64) N ∧ (∀ i, i < p % 64 → R i = F (64 * (p / 64) + i)) ∧ ∀ i, i < 64 → R i < 256
set_option maxRecDepth 100000 in
set_option maxHeartbeats 8000000 in
theorem write_any (g n m cap : Nat) (oa : Option Addr) (F G : Nat → Nat) (w : World) (h : HS w g n F) (hb : Bytes w oa m G) (hmc : m ≤ cap) (hne : ∀ a, oa = some a → 0 < m → a.block ≠ g) (hn : n + m < 1000000000000) (hg : GV w) :
    Calls Tryz.prog 63 #[.pointer (some ⟨g, 0, none⟩), .slice oa m cap] w fun e w' => e = .returned (.tuple #[]) ∧ HS w' g (n + m) (catF n F G) ∧ Own g w w' := by
  obtain ⟨hg0, R, hB, hR1, hR2⟩ := h
  obtain ⟨FG, hFG⟩ : ∃ FG, catF n F G = FG := ⟨_, rfl⟩
  have hFl : ∀ i, i < n → F i = FG i := fun i hi => by rw [← hFG]; exact (if_pos hi).symm
  have HFH : Hid (∀ i, FG (n + i) = G i) := Lib.hid fun i => by rw [← hFG]; show (if n + i < n then F (n + i) else G (n + i - n)) = G i; rw [if_neg (by omega), Nat.add_sub_cancel_left]
  rw [chK_congr (n / 64) (fun i hi => hFl i (by omega))] at hB
  have hR1' : ∀ i, i < n % 64 → R i = FG (64 * (n / 64) + i) := fun i hi => (hR1 i hi).trans (hFl _ (by omega))
  obtain ⟨N, hN⟩ : ∃ N, n + m = N := ⟨_, rfl⟩
  have HNN : Hid (n + m = N ∧ N < 1000000000000) := Lib.hid ⟨hN, by omega⟩
  have c73 := hB.all
  have z73 : w.frozen? ⟨g, 73, none⟩ = false := Blk.free hB _
  have hw1 : IntKind.u64.wrap ((n : Int) + (m : Int)) = (N : Int) := by
    have : (n : Int) + (m : Int) = (N : Int) := by omega
    rw [this]; simp [IntKind.wrap, IntKind.bits, IntKind.signed]; omega
  have hw2 : IntKind.u64.wrap (m : Int) = (m : Int) := by simp [IntKind.wrap, IntKind.bits, IntKind.signed]; omega
  obtain ⟨wa, hwa⟩ : ∃ q, w.setCell ⟨g, 73, none⟩ (.int .u64 (N : Nat)) = q := ⟨_, rfl⟩
  have hO : Own g w wa := by rw [← hwa]; exact (Own.refl g w).set 73 _
  have HT : Hid (WI FG g N n wa) := Lib.hid ⟨R, by rw [← hwa]; exact hB.setn N, hR1', hR2⟩
  have HO := Lib.hid hO
  have HG0 := Lib.hid hg0
  have HG := Lib.hid hg
  have HBY : Hid (∀ w' j, j ≤ m → Own g w w' → Bytes w' oa (m - j) G → True) := Lib.hid fun _ _ _ _ _ => trivial
  have HB0 : Hid (Bytes wa oa m (fun i => G (0 + i))) := Lib.hid fun k hk => by
    obtain ⟨h1, b, off, h2, h3⟩ := hb k hk
    simp only [Nat.zero_add]
    exact ⟨h1, b, off, h2, hO.cell h3 (show b ≠ g from hne ⟨b, off, none⟩ h2 (by omega))⟩
  have HNE := Lib.hid hne
  have HMC := Lib.hid hmc
  have HGB : Hid (∀ i, i < m → G i < 256) := Lib.hid fun i hi => (hb i hi).1
  rw [hFG, hN]
  clear hFl hFG hR1 hR1' hR2 hB hg0 hg hb hne hmc hn HBY hO
  go_enter Tryz.func63, Tryz.ntmps63
  go_wp2_with fail
  clear c73 z73 hw1 hw2 hwa hN
  go_loopw [1] (fun v wr => ∃ (j c : Nat) (a : Option Addr), j ≤ m ∧ v = .slice a (m - j) c ∧ m - j ≤ c ∧ Bytes wr a (m - j) (fun i => G (j + i)) ∧ (∀ x, a = some x → 0 < m - j → x.block ≠ g) ∧ WI FG g N (n + j) wr ∧ Own g w wr) (fun v _ => lenV v)
  case atStart => exact ⟨0, cap, oa, Nat.zero_le _, rfl, HMC.out, HB0.out, HNE.out, HT.out, HO.out⟩
  case round =>
    clear HT HB0 HNE HMC HO
    obtain ⟨j, c, a, hj, rfl, hc, hby, hne, hW, hO⟩ := hrel
    have HO := Lib.hid hO
    have HNE := Lib.hid hne
    have HW := Lib.hid hW
    obtain ⟨l, hl⟩ : ∃ l, m - j = l := ⟨_, rfl⟩
    rw [hl] at hc hby ⊢
    by_cases hl0 : l = 0
    · subst hl0
      have HN : Hid (WI FG g N N wr) := Lib.hid (by have := HNN.out.1; rw [show n + j = N by omega] at hW; exact hW)
      clear hj hc hby hne hW hO hl HW HNE
      go_wp2_with fail
      refine bodyPost_end (v := .tuple #[]) (by simp [results, Tryz.results63, go_sem]) rfl ?_
      exact ⟨rfl, ⟨HG0.out, HN.out⟩, HO.out⟩
    · obtain ⟨_, b, off, rfl, _⟩ := hby 0 (by omega)
      have hbg : b ≠ g := hne _ rfl (by omega)
      obtain ⟨p, hp⟩ : ∃ p, n + j = p := ⟨_, rfl⟩
      rw [hp] at hW
      obtain ⟨R, hB, hR1, hR2⟩ := hW
      obtain ⟨k, hk⟩ : ∃ k, p % 64 = k := ⟨_, rfl⟩
      obtain ⟨q, hq⟩ : ∃ q, p / 64 = q := ⟨_, rfl⟩
      rw [hk, hq] at hB hR1
      have hk64 : k < 64 := by omega
      obtain ⟨d, hd⟩ : ∃ d, 64 = k + d := ⟨64 - k, by omega⟩
      obtain ⟨s, hs⟩ : ∃ s, Nat.min l d = s := ⟨_, rfl⟩
      have hs1 : 0 < s := by rw [← hs]; exact Nat.lt_min.2 ⟨by omega, by omega⟩
      have hs2 : s ≤ l := by rw [← hs]; exact Nat.min_le_left _ _
      have hs3 : s ≤ d := by rw [← hs]; exact Nat.min_le_right _ _
      have l0 : (0 : Int) < (l : Int) := by omega
      have k0 : (0 : Int) ≤ (k : Int) := by omega
      have k1 : (k : Int) ≤ 64 := by omega
      have d0 : (64 : Int) - (k : Int) = (d : Int) := by omega
      have d1 : 64 - k = d := by omega
      have hk6 : ¬ 64 = k := by omega
      have s0 : (0 : Int) ≤ (s : Int) := by omega
      have s1 : (s : Int) ≤ (l : Int) := by omega
      have sc : (s : Int) ≤ (c : Int) := by omega
      obtain ⟨u, hu⟩ : ∃ u, k + s = u := ⟨_, rfl⟩
      have w1 : IntKind.i64.wrap ((k : Int) + (s : Int)) = (u : Int) := wrs hu (by omega)
      have u1 : (k : Int) + (s : Int) = (u : Int) := by omega
      obtain ⟨R', hR'⟩ : ∃ R', cpy R (fun i => G (j + i)) k s = R' := ⟨_, rfl⟩
      have hc72 : wr.drew.cell? ⟨g, 72, none⟩ = some (.int .i64 (k : Nat)) := HB.held (w := wr.drew) hB
      obtain ⟨CS, hCS⟩ : ∃ L, rowC s (fun i => G (j + i)) = L := ⟨_, rfl⟩
      have HCL : Hid (CS.length = s) := Lib.hid (by rw [← hCS]; exact rowC_len _ _)
      have HCN : Hid (CS.length = Nat.min l d) := Lib.hid (by rw [HCL.out, hs])
      have HCO : Hid (∀ v ∈ CS, v.oneCell' = true) := Lib.hid (by rw [← hCS]; exact rowC_one _ _)
      have HCC : Hid (∀ i v, CS[i]? = some v → wr.drew.cell? ((⟨b, off, none⟩ : Addr).add i) = some v) := Lib.hid fun i v hv => by
        rw [← hCS] at hv
        have hi : i < s := by
          have := (List.getElem?_eq_some_iff.1 hv).1; rw [rowC_len] at this; exact this
        rw [rowC_get _ hi] at hv
        obtain ⟨_, b', off', e, hcell⟩ := hby i (by omega)
        cases e
        rw [Addr.add_mid]
        exact hcell.trans hv
      have HBD : Hid (Blk wr.drew g (hshC (chK FG q) R k N).toArray 162) := Lib.hid hB
      have HFIT : Hid (8 + k + CS.length ≤ (hshC (chK FG q) R k N).toArray.size) := Lib.hid (by rw [HCL.out, hshC_size]; omega)
      have HSPL : Hid ((splice (hshC (chK FG q) R k N) (8 + k) CS) = hshC (chK FG q) R' k N) := Lib.hid (by rw [← hCS, ← hR']; exact hshC_copy _ _ _ _ _ _ _ (by omega))
      have HR2' : Hid (∀ i, i < 64 → R' i < 256) := Lib.hid fun i hi => by
        rw [← hR']; unfold cpy
        split
        · exact HGB.out _ (by omega)
        · exact hR2 i hi
      have HR1' : Hid (∀ i, i < u → R' i = FG (64 * q + i)) := Lib.hid fun i hi => by
        rw [← hR']; unfold cpy
        by_cases e : k ≤ i ∧ i < k + s
        · rw [if_pos e]
          show G (j + (i - k)) = FG (64 * q + i)
          rw [← HFH.out]; congr 1; omega
        · rw [if_neg e]; exact hR1 i (by omega)
      have HBYN : Hid (∀ w', Own g wr w' → Bytes w' (some ⟨b, off + s, none⟩) (l - s) (fun i => G (j + s + i))) := Lib.hid fun w' hO' i hi => by
        obtain ⟨h1, b', off', e, hcell⟩ := hby (s + i) (by omega)
        cases e
        simp only [Nat.add_assoc]
        exact ⟨h1, b, off + s, rfl, by rw [Nat.add_assoc]; exact hO'.cell hcell hbg⟩
      have HNUM : Hid (p = 64 * q + k ∧ n + j = p ∧ m - j = l ∧ j ≤ m ∧ s ≤ l ∧ 0 < s ∧ k + s = u ∧ u ≤ 64 ∧ l ≤ c) := Lib.hid ⟨by omega, hp, hl, hj, hs2, hs1, hu, by omega, hc⟩
      have HBG := Lib.hid hbg
      have HOD : Hid (Own g w wr.drew) := Lib.hid hO.drew
      have HWD : Hid (Own g wr wr.drew) := Lib.hid ((Own.refl g wr).drew)
      clear hR' hCS hs hu hR1 hR2 hB hby hne hO hp hk hq hl hj hl0 HW HNE hc hd hbg
      go_wp2_with fail
      refine still_tail 9 (by kernel_rfl) (by kernel_rfl) ?_
      simp only [List.take_succ_cons, List.take_zero, List.drop_succ_cons, List.drop_zero]
      generalize wr.drew = W0 at *
      repeat still_step
      refine wpStill_nil ?_
      refine wpList_copy_own rfl (.tmp 27) (.tmp 28) 24 24 rfl 5 Tryz.underlying24 info_u8s g (8 + k) d d ⟨b, off, none⟩ l c rfl rfl (hshC (chK FG q) R k N).toArray 162 HBD.out CS HCN.out HCC.out HFIT.out HCO.out ?_
      show wpList _ _ _ _ _ (W0.setRow g (splice (hshC (chK FG q) R k N) (8 + k) CS).toArray)
      rw [HSPL.out, HCL.out]
      obtain ⟨w5, hw5⟩ : ∃ w5, W0.setRow g (hshC (chK FG q) R' k N).toArray = w5 := ⟨_, rfl⟩
      have H5 : HB w5 g (chK FG q) R' k N := by rw [← hw5]; exact Blk.setRow HBD.out _
      have O5 : Own g w w5 := by rw [← hw5]; exact HOD.out.trans (Own.setRow _ _)
      rw [hw5]
      obtain ⟨w6, hw6⟩ : ∃ w6, w5.setCell ⟨g, 72, none⟩ (.int .i64 (u : Nat)) = w6 := ⟨_, rfl⟩
      have H6 : HB w6 g (chK FG q) R' u N := by rw [← hw6]; exact H5.setk u
      have O6 : Own g w w6 := by rw [← hw6]; exact O5.set 72 _
      have OW : Own g wr w6 := by rw [← hw6, ← hw5]; exact (HWD.out.trans (Own.setRow _ _)).set 72 _
      have c72 := H5.held
      have z72 : w5.frozen? ⟨g, 72, none⟩ = false := Blk.free H5 _
      have e72 := H6.held
      have H6' := Lib.hid H6
      have O6' := Lib.hid O6
      clear H5 O5 H6 O6 hw5 HCN HCC HBD HFIT HSPL HCO HCL
      have OW := Lib.hid OW
      obtain ⟨L1, hL1⟩ : ∃ L, rowW 8 (chK FG q) = L := ⟨_, rfl⟩
      obtain ⟨L2, hL2⟩ : ∃ L, rowC 64 R' = L := ⟨_, rfl⟩
      clear HOD HWD HO
      have hsp : 0 < s := HNUM.out.2.2.2.2.2.1
      by_cases hcs : c = s
      · have hls : l = s := by have := HNUM.out; omega
        have HLS := Lib.hid hls
        clear hls
        by_cases hu : u = 64
        · subst hu
          have hw6 : w5.setCell ⟨g, 72, none⟩ (.int .i64 64) = w6 := hw6
          have w1 : IntKind.i64.wrap ((k : Int) + (s : Int)) = 64 := w1
          have u1 : (k : Int) + (s : Int) = 64 := u1
          have HRW : Hid (w6.drew.rangeAt g 0 L1) := Lib.hid (hL1 ▸ HB.rangeW (w := w6.drew) H6'.out)
          have HRR : Hid (w6.drew.rangeAt g 8 L2) := Lib.hid (hL2 ▸ HB.rangeR (w := w6.drew) H6'.out)
          have H6D : Hid (HB w6.drew g (chK FG q) R' 64 N) := Lib.hid H6'.out
          have O6D : Hid (Own g w w6.drew) := Lib.hid O6'.out.drew
          have OWD : Hid (Own g wr w6.drew) := Lib.hid OW.out.drew
          have HI1 : Hid ((Tryz.prog.info? 149).map (·.size) = some L1.length) := Lib.hid (hL1 ▸ info56l _)
          have HI2 : Hid ((Tryz.prog.info? 124).map (·.size) = some L2.length) := Lib.hid (hL2 ▸ info57l _)
          have HMX : Hid (∀ w', GV w' → Calls Tryz.prog 85 #[.agg L1.toArray, .agg L2.toArray] w' fun e w'' => e = .returned (.agg (rowW 8 (chK FG (q + 1))).toArray) ∧ Below w'.heap.size w' w'') := Lib.hid fun w' h => by
            have e : chK FG (q + 1) = mixN (chK FG q) R' := by
              show mixN (chK FG q) _ = _
              exact mixN_congr fun i hi => (HR1'.out i hi).symm
            rw [e, ← hL1, ← hL2]; exact mixed_any _ _ w' (fun j _ => chK_lt _ _ _) HR2'.out h
          have HLL := Lib.hid hL1
          clear hL1 hL2 OW O6' H6'
          go_wp2_with fail
          obtain ⟨CM, hCM⟩ : ∃ C, (rowW 8 (chK FG (q + 1))).toArray = C := ⟨_, rfl⟩
          have HJ1 : Hid ((Tryz.prog.info? 149).map (·.size) = some CM.size) := Lib.hid (hCM ▸ info56 (chK FG (q + 1)))
          have HJ2 : Hid (CM.all (·.oneCell') = true) := Lib.hid (hCM ▸ one8w (chK FG (q + 1)))
          rw [hCM] at HMX
          refine wp_region_held_drew (S := (fun _ => True)) (by kernel_rfl) ?_ (fun hHeld => ?_)
          · (try dsimp only)
            all_goals (first | trivial | assumption)
          generalize w6.drew = W7 at *
          refine wpAnyH_take (i := 0) (oi := { dst := some 46, op := Go.Op.move (Go.Operand.tmp 0), type := 125, pos := "sha.go:89", after := #[], guard := none }) (v := ?_) rfl (by kernel_rfl) (by kernel_rfl) (by kernel_rfl) (fun _ _ _ h => h) (Or.inl ⟨by rfl, ?_⟩) (by assumption) ?_
          rotate_left
          · intro wS hSw
            (try dsimp only at hSw)
            go_simp
            (try with_reducible rfl)
          (try simp only [Act.put, List.setIfInBounds_toArray, List.set_cons_zero, List.set_cons_succ])
          refine wpAnyH_take (i := 1) (oi := { dst := some 47, op := Go.Op.move (Go.Operand.tmp 0), type := 125, pos := "sha.go:89", after := #[], guard := none }) (v := ?_) rfl (by kernel_rfl) (by kernel_rfl) (by kernel_rfl) (fun _ _ _ h => h) (Or.inl ⟨by rfl, ?_⟩) (by assumption) ?_
          rotate_left
          · intro wS hSw
            (try dsimp only at hSw)
            go_simp
            (try with_reducible rfl)
          (try simp only [Act.put, List.setIfInBounds_toArray, List.set_cons_zero, List.set_cons_succ])
          refine wpAnyH_take (i := 2) (oi := { dst := some 48, op := Go.Op.nilCheck (Go.Operand.tmp 47), type := 0, pos := "sha.go:89", after := #[{ on := 1, ground := Go.Ground.data }], guard := none }) (v := ?_) rfl (by kernel_rfl) (by kernel_rfl) (by kernel_rfl) (fun _ _ _ h => h) (Or.inl ⟨by rfl, ?_⟩) (by assumption) ?_
          rotate_left
          · intro wS hSw
            (try dsimp only at hSw)
            go_simp
            (try with_reducible rfl)
          (try simp only [Act.put, List.setIfInBounds_toArray, List.set_cons_zero, List.set_cons_succ])
          refine wpAnyH_take (i := 3) (oi := { dst := some 49, op := Go.Op.fieldAddr 162 (Go.Operand.tmp 48) 0, type := 0, pos := "sha.go:89", after := #[{ on := 2, ground := Go.Ground.data }], guard := none }) (v := ?_) rfl (by kernel_rfl) (by kernel_rfl) (by kernel_rfl) (fun _ _ _ h => h) (Or.inl ⟨by rfl, ?_⟩) (by assumption) ?_
          rotate_left
          · intro wS hSw
            (try dsimp only at hSw)
            go_simp
            (try with_reducible rfl)
          (try simp only [Act.put, List.setIfInBounds_toArray, List.set_cons_zero, List.set_cons_succ])
          refine wpAnyH_take (i := 5) (oi := { dst := some 51, op := Go.Op.move (Go.Operand.tmp 0), type := 125, pos := "sha.go:89", after := #[], guard := none }) (v := ?_) rfl (by kernel_rfl) (by kernel_rfl) (by kernel_rfl) (fun _ _ _ h => h) (Or.inl ⟨by rfl, ?_⟩) (by assumption) ?_
          rotate_left
          · intro wS hSw
            (try dsimp only at hSw)
            go_simp
            (try with_reducible rfl)
          (try simp only [Act.put, List.setIfInBounds_toArray, List.set_cons_zero, List.set_cons_succ])
          refine wpAnyH_take (i := 6) (oi := { dst := some 52, op := Go.Op.nilCheck (Go.Operand.tmp 51), type := 0, pos := "sha.go:89", after := #[{ on := 5, ground := Go.Ground.data }], guard := none }) (v := ?_) rfl (by kernel_rfl) (by kernel_rfl) (by kernel_rfl) (fun _ _ _ h => h) (Or.inl ⟨by rfl, ?_⟩) (by assumption) ?_
          rotate_left
          · intro wS hSw
            (try dsimp only at hSw)
            go_simp
            (try with_reducible rfl)
          (try simp only [Act.put, List.setIfInBounds_toArray, List.set_cons_zero, List.set_cons_succ])
          refine wpAnyH_take (i := 7) (oi := { dst := some 53, op := Go.Op.fieldAddr 162 (Go.Operand.tmp 52) 1, type := 0, pos := "sha.go:89", after := #[{ on := 6, ground := Go.Ground.data }], guard := none }) (v := ?_) rfl (by kernel_rfl) (by kernel_rfl) (by kernel_rfl) (fun _ _ _ h => h) (Or.inl ⟨by rfl, ?_⟩) (by assumption) ?_
          rotate_left
          · intro wS hSw
            (try dsimp only at hSw)
            go_simp
            (try with_reducible rfl)
          (try simp only [Act.put, List.setIfInBounds_toArray, List.set_cons_zero, List.set_cons_succ])
          refine wpAnyH_ready (rs := [4, 8]) (by kernel_rfl) (by simp) ?_
          refine AllReadyH.cons (o := { dst := some 50, op := Go.Op.load 149 (Go.Operand.tmp 49), type := 149, pos := "sha.go:89", after := #[{ on := 3, ground := Go.Ground.data }], guard := none }) rfl (fun K hK => ?_) ?_
          · skip
            (refine step_loadM rfl 149 (.tmp 49) rfl g 0 rfl L1 _ HRW.out Tryz.underlying149 rfl HI1.out ?_; skip)
            refine hK.out _ _ ?_ (fun hHeld => ?_)
            · (try dsimp only)
              all_goals (first | trivial | assumption)
            clear hK K
            (try simp only [Act.put, List.setIfInBounds_toArray, List.set_cons_zero, List.set_cons_succ])
            refine wpAnyH_ready (rs := [8]) (by kernel_rfl) (by simp) ?_
            refine AllReadyH.cons (o := { dst := some 54, op := Go.Op.load 124 (Go.Operand.tmp 53), type := 124, pos := "sha.go:89", after := #[{ on := 7, ground := Go.Ground.data }], guard := none }) rfl (fun K hK => ?_) AllReadyH.nil
            (refine step_loadM rfl 124 (.tmp 53) rfl g 8 rfl L2 _ HRR.out Tryz.underlying124 rfl HI2.out ?_; skip)
            refine hK.out _ _ ?_ (fun hHeld => ?_)
            · (try dsimp only)
              all_goals (first | trivial | assumption)
            clear hK K
            (try simp only [Act.put, List.setIfInBounds_toArray, List.set_cons_zero, List.set_cons_succ])
            refine wpAnyH_ready (rs := [9]) (by kernel_rfl) (by simp) ?_
            refine AllReadyH.cons (o := { dst := some 55, op := Go.Op.call { callee := Go.Callee.value (Go.Operand.func 85), args := #[Go.Operand.tmp 50, Go.Operand.tmp 54], argTypes := #[149, 124] }, type := 149, pos := "sha.go:89", after := #[{ on := 4, ground := Go.Ground.data }, { on := 8, ground := Go.Ground.data }], guard := none }) rfl (fun K hK => ?_) AllReadyH.nil
            go_simp
            (refine (HMX.out _ (HG.out.own O6D.out HG0.out.1 HG0.out.2)).mono ?_; rintro e v_1 ⟨rfl, hb8⟩; have H8 : Hid (HB v_1 g (chK FG q) R' 64 N) := Lib.hid (Blk.below H6D.out hb8 (Blk.lt H6D.out)); have O8 : Hid (Own g w v_1) := Lib.hid (O6D.out.trans (Own.of_below hb8)); have OW8 : Hid (Own g wr v_1) := Lib.hid (OWD.out.trans (Own.of_below hb8)); have HTH : Hid (v_1.there g 0 CM.size) := Lib.hid (hCM ▸ there_mid H8.out (by rw [rowW_size, hshC_len]; decide)); clear hb8; skip)
            (try go_wp2_with fail)
            refine hK.out _ _ ?_ (fun hHeld => ?_)
            · (try dsimp only)
              all_goals (first | trivial | assumption)
            clear hK K
            (try simp only [Act.put, List.setIfInBounds_toArray, List.set_cons_zero, List.set_cons_succ])
            refine wpAnyH_take (i := 10) (oi := { dst := some 56, op := Go.Op.nilCheck (Go.Operand.tmp 46), type := 0, pos := "sha.go:89", after := #[{ on := 0, ground := Go.Ground.data }, { on := 0, ground := Go.Ground.phase }, { on := 1, ground := Go.Ground.phase }, { on := 2, ground := Go.Ground.phase }, { on := 3, ground := Go.Ground.phase }, { on := 4, ground := Go.Ground.phase }, { on := 5, ground := Go.Ground.phase }, { on := 6, ground := Go.Ground.phase }, { on := 7, ground := Go.Ground.phase }, { on := 8, ground := Go.Ground.phase }, { on := 9, ground := Go.Ground.phase }], guard := none }) (v := ?_) rfl (by kernel_rfl) (by kernel_rfl) (by kernel_rfl) (fun _ _ _ h => h) (Or.inl ⟨by rfl, ?_⟩) (by assumption) ?_
            rotate_left
            · intro wS hSw
              (try dsimp only at hSw)
              go_simp
              (try with_reducible rfl)
            (try simp only [Act.put, List.setIfInBounds_toArray, List.set_cons_zero, List.set_cons_succ])
            refine wpAnyH_take (i := 11) (oi := { dst := some 57, op := Go.Op.fieldAddr 162 (Go.Operand.tmp 56) 0, type := 0, pos := "sha.go:89", after := #[{ on := 10, ground := Go.Ground.data }, { on := 0, ground := Go.Ground.phase }, { on := 1, ground := Go.Ground.phase }, { on := 2, ground := Go.Ground.phase }, { on := 3, ground := Go.Ground.phase }, { on := 4, ground := Go.Ground.phase }, { on := 5, ground := Go.Ground.phase }, { on := 6, ground := Go.Ground.phase }, { on := 7, ground := Go.Ground.phase }, { on := 8, ground := Go.Ground.phase }, { on := 9, ground := Go.Ground.phase }], guard := none }) (v := ?_) rfl (by kernel_rfl) (by kernel_rfl) (by kernel_rfl) (fun _ _ _ h => h) (Or.inl ⟨by rfl, ?_⟩) (by assumption) ?_
            rotate_left
            · intro wS hSw
              (try dsimp only at hSw)
              go_simp
              (try with_reducible rfl)
            (try simp only [Act.put, List.setIfInBounds_toArray, List.set_cons_zero, List.set_cons_succ])
            refine wpAnyH_ready (rs := [12]) (by kernel_rfl) (by simp) ?_
            refine AllReadyH.cons (o := { dst := none, op := Go.Op.store 149 (Go.Operand.tmp 57) (Go.Operand.tmp 55), type := 0, pos := "sha.go:89", after := #[{ on := 11, ground := Go.Ground.data }, { on := 9, ground := Go.Ground.data }, { on := 9, ground := Go.Ground.chain }, { on := 0, ground := Go.Ground.phase }, { on := 1, ground := Go.Ground.phase }, { on := 2, ground := Go.Ground.phase }, { on := 3, ground := Go.Ground.phase }, { on := 4, ground := Go.Ground.phase }, { on := 5, ground := Go.Ground.phase }, { on := 6, ground := Go.Ground.phase }, { on := 7, ground := Go.Ground.phase }, { on := 8, ground := Go.Ground.phase }, { on := 9, ground := Go.Ground.phase }], guard := none }) rfl (fun K hK => ?_) AllReadyH.nil
            (refine step_storeM rfl 149 (.tmp 57) (.tmp 55) rfl g 0 CM rfl rfl HTH.out HJ1.out HJ2.out ?_; obtain ⟨w9, hw9⟩ : ∃ q', v_1.setCells g 0 CM.toList = q' := ⟨_, rfl⟩; rw [hw9]; skip)
            refine hK.out _ _ ?_ (fun hHeld => ?_)
            · (try dsimp only)
              all_goals (first | trivial | assumption)
            clear hK K
            (try simp only [Act.put, List.setIfInBounds_toArray, List.set_cons_zero, List.set_cons_succ])
            refine wpAnyH_done (by kernel_rfl) ?_ _
            have H9 : HB w9 g (chK FG (q + 1)) R' 64 N := by rw [← hw9, ← hCM]; exact H8.out.words _
            have O9 : Own g w w9 := by rw [← hw9]; exact O8.out.trans (Own.setCells _ _ _)
            have OW9 : Own g wr w9 := by rw [← hw9]; exact OW8.out.trans (Own.setCells _ _ _)
            have c9 := H9.held
            have z9 : w9.frozen? ⟨g, 72, none⟩ = false := Blk.free H9 _
            obtain ⟨w10, hw10⟩ : ∃ q, w9.setCell ⟨g, 72, none⟩ (.int .i64 0) = q := ⟨_, rfl⟩
            have HX : Hid (WI FG g N (n + (j + s)) w10) := Lib.hid (by
              have h1 := HNUM.out
              refine ⟨R', ?_, fun i hi => ?_, HR2'.out⟩
              · rw [show (n + (j + s)) / 64 = q + 1 by omega, show (n + (j + s)) % 64 = 0 by omega, ← hw10]; exact H9.setk 0
              · rw [show (n + (j + s)) % 64 = 0 by omega] at hi; exact absurd hi (Nat.not_lt_zero _))
            have O10 : Hid (Own g w w10) := Lib.hid (by rw [← hw10]; exact O9.set 72 _)
            have hO : Own g wr w10 := by rw [← hw10]; exact OW9.set 72 _
            have HBF : Hid (Bytes w10 (some ⟨b, off, none⟩) (m - (j + s)) (fun i => G (j + s + i))) := Lib.hid (fun i hi => absurd hi (by have := HNUM.out; omega))
            clear H8 O8 OW8 H9 O9 OW9 hO HRW HRR H6D O6D OWD HMX HBYN hw9 hCM HTH
            go_wp2_with fail
            clear hw10 c9 z9
            have HNE' : Hid (∀ x, some (⟨b, off, none⟩ : Addr) = some x → 0 < m - (j + s) → x.block ≠ g) := Lib.hid fun x hx _ => by cases hx; exact HBG.out
            go_roundw
            case rel => exact ⟨j + s, _, some ⟨b, off, none⟩, by have := HNUM.out; omega, (by have h9 : m - (j + s) = l - s := (by have := HNUM.out; omega); first | (rw [h9]; done) | (rw [h9]; congr 1; omega)), by have := HNUM.out; omega, HBF.out, HNE'.out, HX.out, O10.out⟩
            case measure => simp [lenV]; omega
          refine AllReadyH.cons (o := { dst := some 54, op := Go.Op.load 124 (Go.Operand.tmp 53), type := 124, pos := "sha.go:89", after := #[{ on := 7, ground := Go.Ground.data }], guard := none }) rfl (fun K hK => ?_) AllReadyH.nil
          (refine step_loadM rfl 124 (.tmp 53) rfl g 8 rfl L2 _ HRR.out Tryz.underlying124 rfl HI2.out ?_; skip)
          refine hK.out _ _ ?_ (fun hHeld => ?_)
          · (try dsimp only)
            all_goals (first | trivial | assumption)
          clear hK K
          (try simp only [Act.put, List.setIfInBounds_toArray, List.set_cons_zero, List.set_cons_succ])
          refine wpAnyH_ready (rs := [4]) (by kernel_rfl) (by simp) ?_
          refine AllReadyH.cons (o := { dst := some 50, op := Go.Op.load 149 (Go.Operand.tmp 49), type := 149, pos := "sha.go:89", after := #[{ on := 3, ground := Go.Ground.data }], guard := none }) rfl (fun K hK => ?_) AllReadyH.nil
          (refine step_loadM rfl 149 (.tmp 49) rfl g 0 rfl L1 _ HRW.out Tryz.underlying149 rfl HI1.out ?_; skip)
          refine hK.out _ _ ?_ (fun hHeld => ?_)
          · (try dsimp only)
            all_goals (first | trivial | assumption)
          clear hK K
          (try simp only [Act.put, List.setIfInBounds_toArray, List.set_cons_zero, List.set_cons_succ])
          refine wpAnyH_ready (rs := [9]) (by kernel_rfl) (by simp) ?_
          refine AllReadyH.cons (o := { dst := some 55, op := Go.Op.call { callee := Go.Callee.value (Go.Operand.func 85), args := #[Go.Operand.tmp 50, Go.Operand.tmp 54], argTypes := #[149, 124] }, type := 149, pos := "sha.go:89", after := #[{ on := 4, ground := Go.Ground.data }, { on := 8, ground := Go.Ground.data }], guard := none }) rfl (fun K hK => ?_) AllReadyH.nil
          go_simp
          (refine (HMX.out _ (HG.out.own O6D.out HG0.out.1 HG0.out.2)).mono ?_; rintro e v_3 ⟨rfl, hb8⟩; have H8 : Hid (HB v_3 g (chK FG q) R' 64 N) := Lib.hid (Blk.below H6D.out hb8 (Blk.lt H6D.out)); have O8 : Hid (Own g w v_3) := Lib.hid (O6D.out.trans (Own.of_below hb8)); have OW8 : Hid (Own g wr v_3) := Lib.hid (OWD.out.trans (Own.of_below hb8)); have HTH : Hid (v_3.there g 0 CM.size) := Lib.hid (hCM ▸ there_mid H8.out (by rw [rowW_size, hshC_len]; decide)); clear hb8; skip)
          (try go_wp2_with fail)
          refine hK.out _ _ ?_ (fun hHeld => ?_)
          · (try dsimp only)
            all_goals (first | trivial | assumption)
          clear hK K
          (try simp only [Act.put, List.setIfInBounds_toArray, List.set_cons_zero, List.set_cons_succ])
          refine wpAnyH_take (i := 10) (oi := { dst := some 56, op := Go.Op.nilCheck (Go.Operand.tmp 46), type := 0, pos := "sha.go:89", after := #[{ on := 0, ground := Go.Ground.data }, { on := 0, ground := Go.Ground.phase }, { on := 1, ground := Go.Ground.phase }, { on := 2, ground := Go.Ground.phase }, { on := 3, ground := Go.Ground.phase }, { on := 4, ground := Go.Ground.phase }, { on := 5, ground := Go.Ground.phase }, { on := 6, ground := Go.Ground.phase }, { on := 7, ground := Go.Ground.phase }, { on := 8, ground := Go.Ground.phase }, { on := 9, ground := Go.Ground.phase }], guard := none }) (v := ?_) rfl (by kernel_rfl) (by kernel_rfl) (by kernel_rfl) (fun _ _ _ h => h) (Or.inl ⟨by rfl, ?_⟩) (by assumption) ?_
          rotate_left
          · intro wS hSw
            (try dsimp only at hSw)
            go_simp
            (try with_reducible rfl)
          (try simp only [Act.put, List.setIfInBounds_toArray, List.set_cons_zero, List.set_cons_succ])
          refine wpAnyH_take (i := 11) (oi := { dst := some 57, op := Go.Op.fieldAddr 162 (Go.Operand.tmp 56) 0, type := 0, pos := "sha.go:89", after := #[{ on := 10, ground := Go.Ground.data }, { on := 0, ground := Go.Ground.phase }, { on := 1, ground := Go.Ground.phase }, { on := 2, ground := Go.Ground.phase }, { on := 3, ground := Go.Ground.phase }, { on := 4, ground := Go.Ground.phase }, { on := 5, ground := Go.Ground.phase }, { on := 6, ground := Go.Ground.phase }, { on := 7, ground := Go.Ground.phase }, { on := 8, ground := Go.Ground.phase }, { on := 9, ground := Go.Ground.phase }], guard := none }) (v := ?_) rfl (by kernel_rfl) (by kernel_rfl) (by kernel_rfl) (fun _ _ _ h => h) (Or.inl ⟨by rfl, ?_⟩) (by assumption) ?_
          rotate_left
          · intro wS hSw
            (try dsimp only at hSw)
            go_simp
            (try with_reducible rfl)
          (try simp only [Act.put, List.setIfInBounds_toArray, List.set_cons_zero, List.set_cons_succ])
          refine wpAnyH_ready (rs := [12]) (by kernel_rfl) (by simp) ?_
          refine AllReadyH.cons (o := { dst := none, op := Go.Op.store 149 (Go.Operand.tmp 57) (Go.Operand.tmp 55), type := 0, pos := "sha.go:89", after := #[{ on := 11, ground := Go.Ground.data }, { on := 9, ground := Go.Ground.data }, { on := 9, ground := Go.Ground.chain }, { on := 0, ground := Go.Ground.phase }, { on := 1, ground := Go.Ground.phase }, { on := 2, ground := Go.Ground.phase }, { on := 3, ground := Go.Ground.phase }, { on := 4, ground := Go.Ground.phase }, { on := 5, ground := Go.Ground.phase }, { on := 6, ground := Go.Ground.phase }, { on := 7, ground := Go.Ground.phase }, { on := 8, ground := Go.Ground.phase }, { on := 9, ground := Go.Ground.phase }], guard := none }) rfl (fun K hK => ?_) AllReadyH.nil
          (refine step_storeM rfl 149 (.tmp 57) (.tmp 55) rfl g 0 CM rfl rfl HTH.out HJ1.out HJ2.out ?_; obtain ⟨w9, hw9⟩ : ∃ q', v_3.setCells g 0 CM.toList = q' := ⟨_, rfl⟩; rw [hw9]; skip)
          refine hK.out _ _ ?_ (fun hHeld => ?_)
          · (try dsimp only)
            all_goals (first | trivial | assumption)
          clear hK K
          (try simp only [Act.put, List.setIfInBounds_toArray, List.set_cons_zero, List.set_cons_succ])
          refine wpAnyH_done (by kernel_rfl) ?_ _
          have H9 : HB w9 g (chK FG (q + 1)) R' 64 N := by rw [← hw9, ← hCM]; exact H8.out.words _
          have O9 : Own g w w9 := by rw [← hw9]; exact O8.out.trans (Own.setCells _ _ _)
          have OW9 : Own g wr w9 := by rw [← hw9]; exact OW8.out.trans (Own.setCells _ _ _)
          have c9 := H9.held
          have z9 : w9.frozen? ⟨g, 72, none⟩ = false := Blk.free H9 _
          obtain ⟨w10, hw10⟩ : ∃ q, w9.setCell ⟨g, 72, none⟩ (.int .i64 0) = q := ⟨_, rfl⟩
          have HX : Hid (WI FG g N (n + (j + s)) w10) := Lib.hid (by
            have h1 := HNUM.out
            refine ⟨R', ?_, fun i hi => ?_, HR2'.out⟩
            · rw [show (n + (j + s)) / 64 = q + 1 by omega, show (n + (j + s)) % 64 = 0 by omega, ← hw10]; exact H9.setk 0
            · rw [show (n + (j + s)) % 64 = 0 by omega] at hi; exact absurd hi (Nat.not_lt_zero _))
          have O10 : Hid (Own g w w10) := Lib.hid (by rw [← hw10]; exact O9.set 72 _)
          have hO : Own g wr w10 := by rw [← hw10]; exact OW9.set 72 _
          have HBF : Hid (Bytes w10 (some ⟨b, off, none⟩) (m - (j + s)) (fun i => G (j + s + i))) := Lib.hid (fun i hi => absurd hi (by have := HNUM.out; omega))
          clear H8 O8 OW8 H9 O9 OW9 hO HRW HRR H6D O6D OWD HMX HBYN hw9 hCM HTH
          go_wp2_with fail
          clear hw10 c9 z9
          have HNE' : Hid (∀ x, some (⟨b, off, none⟩ : Addr) = some x → 0 < m - (j + s) → x.block ≠ g) := Lib.hid fun x hx _ => by cases hx; exact HBG.out
          go_roundw
          case rel => exact ⟨j + s, _, some ⟨b, off, none⟩, by have := HNUM.out; omega, (by have h9 : m - (j + s) = l - s := (by have := HNUM.out; omega); first | (rw [h9]; done) | (rw [h9]; congr 1; omega)), by have := HNUM.out; omega, HBF.out, HNE'.out, HX.out, O10.out⟩
          case measure => simp [lenV]; omega
        · have hu' : ¬ (u : Int) = 64 := by omega
          have HU : Hid (u ≠ 64) := Lib.hid hu
          have hO := OW.out
          have HBF : Hid (Bytes w6 (some ⟨b, off, none⟩) (m - (j + s)) (fun i => G (j + s + i))) := Lib.hid (fun i hi => absurd hi (by have := HNUM.out; omega))
          clear hu hO OW HBYN hL1 hL2
          go_wp2_with fail
          have HX : Hid (WI FG g N (n + (j + s)) w6) := Lib.hid (by
            have h1 := HNUM.out
            have h2 := HU.out
            refine ⟨R', ?_, fun i hi => ?_, HR2'.out⟩
            · rw [show (n + (j + s)) / 64 = q by omega, show (n + (j + s)) % 64 = u by omega]; exact H6'.out
            · rw [show (n + (j + s)) / 64 = q by omega]; exact HR1'.out i (by omega))
          have HNE' : Hid (∀ x, some (⟨b, off, none⟩ : Addr) = some x → 0 < m - (j + s) → x.block ≠ g) := Lib.hid fun x hx _ => by cases hx; exact HBG.out
          go_roundw
          case rel => exact ⟨j + s, _, some ⟨b, off, none⟩, by have := HNUM.out; omega, (by have h9 : m - (j + s) = l - s := (by have := HNUM.out; omega); first | (rw [h9]; done) | (rw [h9]; congr 1; omega)), by have := HNUM.out; omega, HBF.out, HNE'.out, HX.out, O6'.out⟩
          case measure => simp [lenV]; omega
      · skip
        by_cases hu : u = 64
        · subst hu
          have hw6 : w5.setCell ⟨g, 72, none⟩ (.int .i64 64) = w6 := hw6
          have w1 : IntKind.i64.wrap ((k : Int) + (s : Int)) = 64 := w1
          have u1 : (k : Int) + (s : Int) = 64 := u1
          have HRW : Hid (w6.drew.rangeAt g 0 L1) := Lib.hid (hL1 ▸ HB.rangeW (w := w6.drew) H6'.out)
          have HRR : Hid (w6.drew.rangeAt g 8 L2) := Lib.hid (hL2 ▸ HB.rangeR (w := w6.drew) H6'.out)
          have H6D : Hid (HB w6.drew g (chK FG q) R' 64 N) := Lib.hid H6'.out
          have O6D : Hid (Own g w w6.drew) := Lib.hid O6'.out.drew
          have OWD : Hid (Own g wr w6.drew) := Lib.hid OW.out.drew
          have HI1 : Hid ((Tryz.prog.info? 149).map (·.size) = some L1.length) := Lib.hid (hL1 ▸ info56l _)
          have HI2 : Hid ((Tryz.prog.info? 124).map (·.size) = some L2.length) := Lib.hid (hL2 ▸ info57l _)
          have HMX : Hid (∀ w', GV w' → Calls Tryz.prog 85 #[.agg L1.toArray, .agg L2.toArray] w' fun e w'' => e = .returned (.agg (rowW 8 (chK FG (q + 1))).toArray) ∧ Below w'.heap.size w' w'') := Lib.hid fun w' h => by
            have e : chK FG (q + 1) = mixN (chK FG q) R' := by
              show mixN (chK FG q) _ = _
              exact mixN_congr fun i hi => (HR1'.out i hi).symm
            rw [e, ← hL1, ← hL2]; exact mixed_any _ _ w' (fun j _ => chK_lt _ _ _) HR2'.out h
          have HLL := Lib.hid hL1
          clear hL1 hL2 OW O6' H6'
          go_wp2_with fail
          obtain ⟨CM, hCM⟩ : ∃ C, (rowW 8 (chK FG (q + 1))).toArray = C := ⟨_, rfl⟩
          have HJ1 : Hid ((Tryz.prog.info? 149).map (·.size) = some CM.size) := Lib.hid (hCM ▸ info56 (chK FG (q + 1)))
          have HJ2 : Hid (CM.all (·.oneCell') = true) := Lib.hid (hCM ▸ one8w (chK FG (q + 1)))
          rw [hCM] at HMX
          refine wp_region_held_drew (S := (fun _ => True)) (by kernel_rfl) ?_ (fun hHeld => ?_)
          · (try dsimp only)
            all_goals (first | trivial | assumption)
          generalize w6.drew = W7 at *
          refine wpAnyH_take (i := 0) (oi := { dst := some 46, op := Go.Op.move (Go.Operand.tmp 0), type := 125, pos := "sha.go:89", after := #[], guard := none }) (v := ?_) rfl (by kernel_rfl) (by kernel_rfl) (by kernel_rfl) (fun _ _ _ h => h) (Or.inl ⟨by rfl, ?_⟩) (by assumption) ?_
          rotate_left
          · intro wS hSw
            (try dsimp only at hSw)
            go_simp
            (try with_reducible rfl)
          (try simp only [Act.put, List.setIfInBounds_toArray, List.set_cons_zero, List.set_cons_succ])
          refine wpAnyH_take (i := 1) (oi := { dst := some 47, op := Go.Op.move (Go.Operand.tmp 0), type := 125, pos := "sha.go:89", after := #[], guard := none }) (v := ?_) rfl (by kernel_rfl) (by kernel_rfl) (by kernel_rfl) (fun _ _ _ h => h) (Or.inl ⟨by rfl, ?_⟩) (by assumption) ?_
          rotate_left
          · intro wS hSw
            (try dsimp only at hSw)
            go_simp
            (try with_reducible rfl)
          (try simp only [Act.put, List.setIfInBounds_toArray, List.set_cons_zero, List.set_cons_succ])
          refine wpAnyH_take (i := 2) (oi := { dst := some 48, op := Go.Op.nilCheck (Go.Operand.tmp 47), type := 0, pos := "sha.go:89", after := #[{ on := 1, ground := Go.Ground.data }], guard := none }) (v := ?_) rfl (by kernel_rfl) (by kernel_rfl) (by kernel_rfl) (fun _ _ _ h => h) (Or.inl ⟨by rfl, ?_⟩) (by assumption) ?_
          rotate_left
          · intro wS hSw
            (try dsimp only at hSw)
            go_simp
            (try with_reducible rfl)
          (try simp only [Act.put, List.setIfInBounds_toArray, List.set_cons_zero, List.set_cons_succ])
          refine wpAnyH_take (i := 3) (oi := { dst := some 49, op := Go.Op.fieldAddr 162 (Go.Operand.tmp 48) 0, type := 0, pos := "sha.go:89", after := #[{ on := 2, ground := Go.Ground.data }], guard := none }) (v := ?_) rfl (by kernel_rfl) (by kernel_rfl) (by kernel_rfl) (fun _ _ _ h => h) (Or.inl ⟨by rfl, ?_⟩) (by assumption) ?_
          rotate_left
          · intro wS hSw
            (try dsimp only at hSw)
            go_simp
            (try with_reducible rfl)
          (try simp only [Act.put, List.setIfInBounds_toArray, List.set_cons_zero, List.set_cons_succ])
          refine wpAnyH_take (i := 5) (oi := { dst := some 51, op := Go.Op.move (Go.Operand.tmp 0), type := 125, pos := "sha.go:89", after := #[], guard := none }) (v := ?_) rfl (by kernel_rfl) (by kernel_rfl) (by kernel_rfl) (fun _ _ _ h => h) (Or.inl ⟨by rfl, ?_⟩) (by assumption) ?_
          rotate_left
          · intro wS hSw
            (try dsimp only at hSw)
            go_simp
            (try with_reducible rfl)
          (try simp only [Act.put, List.setIfInBounds_toArray, List.set_cons_zero, List.set_cons_succ])
          refine wpAnyH_take (i := 6) (oi := { dst := some 52, op := Go.Op.nilCheck (Go.Operand.tmp 51), type := 0, pos := "sha.go:89", after := #[{ on := 5, ground := Go.Ground.data }], guard := none }) (v := ?_) rfl (by kernel_rfl) (by kernel_rfl) (by kernel_rfl) (fun _ _ _ h => h) (Or.inl ⟨by rfl, ?_⟩) (by assumption) ?_
          rotate_left
          · intro wS hSw
            (try dsimp only at hSw)
            go_simp
            (try with_reducible rfl)
          (try simp only [Act.put, List.setIfInBounds_toArray, List.set_cons_zero, List.set_cons_succ])
          refine wpAnyH_take (i := 7) (oi := { dst := some 53, op := Go.Op.fieldAddr 162 (Go.Operand.tmp 52) 1, type := 0, pos := "sha.go:89", after := #[{ on := 6, ground := Go.Ground.data }], guard := none }) (v := ?_) rfl (by kernel_rfl) (by kernel_rfl) (by kernel_rfl) (fun _ _ _ h => h) (Or.inl ⟨by rfl, ?_⟩) (by assumption) ?_
          rotate_left
          · intro wS hSw
            (try dsimp only at hSw)
            go_simp
            (try with_reducible rfl)
          (try simp only [Act.put, List.setIfInBounds_toArray, List.set_cons_zero, List.set_cons_succ])
          refine wpAnyH_ready (rs := [4, 8]) (by kernel_rfl) (by simp) ?_
          refine AllReadyH.cons (o := { dst := some 50, op := Go.Op.load 149 (Go.Operand.tmp 49), type := 149, pos := "sha.go:89", after := #[{ on := 3, ground := Go.Ground.data }], guard := none }) rfl (fun K hK => ?_) ?_
          · skip
            (refine step_loadM rfl 149 (.tmp 49) rfl g 0 rfl L1 _ HRW.out Tryz.underlying149 rfl HI1.out ?_; skip)
            refine hK.out _ _ ?_ (fun hHeld => ?_)
            · (try dsimp only)
              all_goals (first | trivial | assumption)
            clear hK K
            (try simp only [Act.put, List.setIfInBounds_toArray, List.set_cons_zero, List.set_cons_succ])
            refine wpAnyH_ready (rs := [8]) (by kernel_rfl) (by simp) ?_
            refine AllReadyH.cons (o := { dst := some 54, op := Go.Op.load 124 (Go.Operand.tmp 53), type := 124, pos := "sha.go:89", after := #[{ on := 7, ground := Go.Ground.data }], guard := none }) rfl (fun K hK => ?_) AllReadyH.nil
            (refine step_loadM rfl 124 (.tmp 53) rfl g 8 rfl L2 _ HRR.out Tryz.underlying124 rfl HI2.out ?_; skip)
            refine hK.out _ _ ?_ (fun hHeld => ?_)
            · (try dsimp only)
              all_goals (first | trivial | assumption)
            clear hK K
            (try simp only [Act.put, List.setIfInBounds_toArray, List.set_cons_zero, List.set_cons_succ])
            refine wpAnyH_ready (rs := [9]) (by kernel_rfl) (by simp) ?_
            refine AllReadyH.cons (o := { dst := some 55, op := Go.Op.call { callee := Go.Callee.value (Go.Operand.func 85), args := #[Go.Operand.tmp 50, Go.Operand.tmp 54], argTypes := #[149, 124] }, type := 149, pos := "sha.go:89", after := #[{ on := 4, ground := Go.Ground.data }, { on := 8, ground := Go.Ground.data }], guard := none }) rfl (fun K hK => ?_) AllReadyH.nil
            go_simp
            (refine (HMX.out _ (HG.out.own O6D.out HG0.out.1 HG0.out.2)).mono ?_; rintro e v_5 ⟨rfl, hb8⟩; have H8 : Hid (HB v_5 g (chK FG q) R' 64 N) := Lib.hid (Blk.below H6D.out hb8 (Blk.lt H6D.out)); have O8 : Hid (Own g w v_5) := Lib.hid (O6D.out.trans (Own.of_below hb8)); have OW8 : Hid (Own g wr v_5) := Lib.hid (OWD.out.trans (Own.of_below hb8)); have HTH : Hid (v_5.there g 0 CM.size) := Lib.hid (hCM ▸ there_mid H8.out (by rw [rowW_size, hshC_len]; decide)); clear hb8; skip)
            (try go_wp2_with fail)
            refine hK.out _ _ ?_ (fun hHeld => ?_)
            · (try dsimp only)
              all_goals (first | trivial | assumption)
            clear hK K
            (try simp only [Act.put, List.setIfInBounds_toArray, List.set_cons_zero, List.set_cons_succ])
            refine wpAnyH_take (i := 10) (oi := { dst := some 56, op := Go.Op.nilCheck (Go.Operand.tmp 46), type := 0, pos := "sha.go:89", after := #[{ on := 0, ground := Go.Ground.data }, { on := 0, ground := Go.Ground.phase }, { on := 1, ground := Go.Ground.phase }, { on := 2, ground := Go.Ground.phase }, { on := 3, ground := Go.Ground.phase }, { on := 4, ground := Go.Ground.phase }, { on := 5, ground := Go.Ground.phase }, { on := 6, ground := Go.Ground.phase }, { on := 7, ground := Go.Ground.phase }, { on := 8, ground := Go.Ground.phase }, { on := 9, ground := Go.Ground.phase }], guard := none }) (v := ?_) rfl (by kernel_rfl) (by kernel_rfl) (by kernel_rfl) (fun _ _ _ h => h) (Or.inl ⟨by rfl, ?_⟩) (by assumption) ?_
            rotate_left
            · intro wS hSw
              (try dsimp only at hSw)
              go_simp
              (try with_reducible rfl)
            (try simp only [Act.put, List.setIfInBounds_toArray, List.set_cons_zero, List.set_cons_succ])
            refine wpAnyH_take (i := 11) (oi := { dst := some 57, op := Go.Op.fieldAddr 162 (Go.Operand.tmp 56) 0, type := 0, pos := "sha.go:89", after := #[{ on := 10, ground := Go.Ground.data }, { on := 0, ground := Go.Ground.phase }, { on := 1, ground := Go.Ground.phase }, { on := 2, ground := Go.Ground.phase }, { on := 3, ground := Go.Ground.phase }, { on := 4, ground := Go.Ground.phase }, { on := 5, ground := Go.Ground.phase }, { on := 6, ground := Go.Ground.phase }, { on := 7, ground := Go.Ground.phase }, { on := 8, ground := Go.Ground.phase }, { on := 9, ground := Go.Ground.phase }], guard := none }) (v := ?_) rfl (by kernel_rfl) (by kernel_rfl) (by kernel_rfl) (fun _ _ _ h => h) (Or.inl ⟨by rfl, ?_⟩) (by assumption) ?_
            rotate_left
            · intro wS hSw
              (try dsimp only at hSw)
              go_simp
              (try with_reducible rfl)
            (try simp only [Act.put, List.setIfInBounds_toArray, List.set_cons_zero, List.set_cons_succ])
            refine wpAnyH_ready (rs := [12]) (by kernel_rfl) (by simp) ?_
            refine AllReadyH.cons (o := { dst := none, op := Go.Op.store 149 (Go.Operand.tmp 57) (Go.Operand.tmp 55), type := 0, pos := "sha.go:89", after := #[{ on := 11, ground := Go.Ground.data }, { on := 9, ground := Go.Ground.data }, { on := 9, ground := Go.Ground.chain }, { on := 0, ground := Go.Ground.phase }, { on := 1, ground := Go.Ground.phase }, { on := 2, ground := Go.Ground.phase }, { on := 3, ground := Go.Ground.phase }, { on := 4, ground := Go.Ground.phase }, { on := 5, ground := Go.Ground.phase }, { on := 6, ground := Go.Ground.phase }, { on := 7, ground := Go.Ground.phase }, { on := 8, ground := Go.Ground.phase }, { on := 9, ground := Go.Ground.phase }], guard := none }) rfl (fun K hK => ?_) AllReadyH.nil
            (refine step_storeM rfl 149 (.tmp 57) (.tmp 55) rfl g 0 CM rfl rfl HTH.out HJ1.out HJ2.out ?_; obtain ⟨w9, hw9⟩ : ∃ q', v_5.setCells g 0 CM.toList = q' := ⟨_, rfl⟩; rw [hw9]; skip)
            refine hK.out _ _ ?_ (fun hHeld => ?_)
            · (try dsimp only)
              all_goals (first | trivial | assumption)
            clear hK K
            (try simp only [Act.put, List.setIfInBounds_toArray, List.set_cons_zero, List.set_cons_succ])
            refine wpAnyH_done (by kernel_rfl) ?_ _
            have H9 : HB w9 g (chK FG (q + 1)) R' 64 N := by rw [← hw9, ← hCM]; exact H8.out.words _
            have O9 : Own g w w9 := by rw [← hw9]; exact O8.out.trans (Own.setCells _ _ _)
            have OW9 : Own g wr w9 := by rw [← hw9]; exact OW8.out.trans (Own.setCells _ _ _)
            have c9 := H9.held
            have z9 : w9.frozen? ⟨g, 72, none⟩ = false := Blk.free H9 _
            obtain ⟨w10, hw10⟩ : ∃ q, w9.setCell ⟨g, 72, none⟩ (.int .i64 0) = q := ⟨_, rfl⟩
            have HX : Hid (WI FG g N (n + (j + s)) w10) := Lib.hid (by
              have h1 := HNUM.out
              refine ⟨R', ?_, fun i hi => ?_, HR2'.out⟩
              · rw [show (n + (j + s)) / 64 = q + 1 by omega, show (n + (j + s)) % 64 = 0 by omega, ← hw10]; exact H9.setk 0
              · rw [show (n + (j + s)) % 64 = 0 by omega] at hi; exact absurd hi (Nat.not_lt_zero _))
            have O10 : Hid (Own g w w10) := Lib.hid (by rw [← hw10]; exact O9.set 72 _)
            have hO : Own g wr w10 := by rw [← hw10]; exact OW9.set 72 _
            have HBF : Hid (Bytes w10 (some ⟨b, off + s, none⟩) (m - (j + s)) (fun i => G (j + s + i))) := Lib.hid (by have := HNUM.out; rw [show m - (j + s) = l - s by omega]; exact HBYN.out _ hO)
            clear H8 O8 OW8 H9 O9 OW9 hO HRW HRR H6D O6D OWD HMX HBYN hw9 hCM HTH
            go_wp2_with fail
            clear hw10 c9 z9
            have HNE' : Hid (∀ x, some (⟨b, off + s, none⟩ : Addr) = some x → 0 < m - (j + s) → x.block ≠ g) := Lib.hid fun x hx _ => by cases hx; exact HBG.out
            go_roundw
            case rel => exact ⟨j + s, _, some ⟨b, off + s, none⟩, by have := HNUM.out; omega, (by have h9 : m - (j + s) = l - s := (by have := HNUM.out; omega); first | (rw [h9]; done) | (rw [h9]; congr 1; omega)), by have := HNUM.out; omega, HBF.out, HNE'.out, HX.out, O10.out⟩
            case measure => simp [lenV]; omega
          refine AllReadyH.cons (o := { dst := some 54, op := Go.Op.load 124 (Go.Operand.tmp 53), type := 124, pos := "sha.go:89", after := #[{ on := 7, ground := Go.Ground.data }], guard := none }) rfl (fun K hK => ?_) AllReadyH.nil
          (refine step_loadM rfl 124 (.tmp 53) rfl g 8 rfl L2 _ HRR.out Tryz.underlying124 rfl HI2.out ?_; skip)
          refine hK.out _ _ ?_ (fun hHeld => ?_)
          · (try dsimp only)
            all_goals (first | trivial | assumption)
          clear hK K
          (try simp only [Act.put, List.setIfInBounds_toArray, List.set_cons_zero, List.set_cons_succ])
          refine wpAnyH_ready (rs := [4]) (by kernel_rfl) (by simp) ?_
          refine AllReadyH.cons (o := { dst := some 50, op := Go.Op.load 149 (Go.Operand.tmp 49), type := 149, pos := "sha.go:89", after := #[{ on := 3, ground := Go.Ground.data }], guard := none }) rfl (fun K hK => ?_) AllReadyH.nil
          (refine step_loadM rfl 149 (.tmp 49) rfl g 0 rfl L1 _ HRW.out Tryz.underlying149 rfl HI1.out ?_; skip)
          refine hK.out _ _ ?_ (fun hHeld => ?_)
          · (try dsimp only)
            all_goals (first | trivial | assumption)
          clear hK K
          (try simp only [Act.put, List.setIfInBounds_toArray, List.set_cons_zero, List.set_cons_succ])
          refine wpAnyH_ready (rs := [9]) (by kernel_rfl) (by simp) ?_
          refine AllReadyH.cons (o := { dst := some 55, op := Go.Op.call { callee := Go.Callee.value (Go.Operand.func 85), args := #[Go.Operand.tmp 50, Go.Operand.tmp 54], argTypes := #[149, 124] }, type := 149, pos := "sha.go:89", after := #[{ on := 4, ground := Go.Ground.data }, { on := 8, ground := Go.Ground.data }], guard := none }) rfl (fun K hK => ?_) AllReadyH.nil
          go_simp
          (refine (HMX.out _ (HG.out.own O6D.out HG0.out.1 HG0.out.2)).mono ?_; rintro e v_7 ⟨rfl, hb8⟩; have H8 : Hid (HB v_7 g (chK FG q) R' 64 N) := Lib.hid (Blk.below H6D.out hb8 (Blk.lt H6D.out)); have O8 : Hid (Own g w v_7) := Lib.hid (O6D.out.trans (Own.of_below hb8)); have OW8 : Hid (Own g wr v_7) := Lib.hid (OWD.out.trans (Own.of_below hb8)); have HTH : Hid (v_7.there g 0 CM.size) := Lib.hid (hCM ▸ there_mid H8.out (by rw [rowW_size, hshC_len]; decide)); clear hb8; skip)
          (try go_wp2_with fail)
          refine hK.out _ _ ?_ (fun hHeld => ?_)
          · (try dsimp only)
            all_goals (first | trivial | assumption)
          clear hK K
          (try simp only [Act.put, List.setIfInBounds_toArray, List.set_cons_zero, List.set_cons_succ])
          refine wpAnyH_take (i := 10) (oi := { dst := some 56, op := Go.Op.nilCheck (Go.Operand.tmp 46), type := 0, pos := "sha.go:89", after := #[{ on := 0, ground := Go.Ground.data }, { on := 0, ground := Go.Ground.phase }, { on := 1, ground := Go.Ground.phase }, { on := 2, ground := Go.Ground.phase }, { on := 3, ground := Go.Ground.phase }, { on := 4, ground := Go.Ground.phase }, { on := 5, ground := Go.Ground.phase }, { on := 6, ground := Go.Ground.phase }, { on := 7, ground := Go.Ground.phase }, { on := 8, ground := Go.Ground.phase }, { on := 9, ground := Go.Ground.phase }], guard := none }) (v := ?_) rfl (by kernel_rfl) (by kernel_rfl) (by kernel_rfl) (fun _ _ _ h => h) (Or.inl ⟨by rfl, ?_⟩) (by assumption) ?_
          rotate_left
          · intro wS hSw
            (try dsimp only at hSw)
            go_simp
            (try with_reducible rfl)
          (try simp only [Act.put, List.setIfInBounds_toArray, List.set_cons_zero, List.set_cons_succ])
          refine wpAnyH_take (i := 11) (oi := { dst := some 57, op := Go.Op.fieldAddr 162 (Go.Operand.tmp 56) 0, type := 0, pos := "sha.go:89", after := #[{ on := 10, ground := Go.Ground.data }, { on := 0, ground := Go.Ground.phase }, { on := 1, ground := Go.Ground.phase }, { on := 2, ground := Go.Ground.phase }, { on := 3, ground := Go.Ground.phase }, { on := 4, ground := Go.Ground.phase }, { on := 5, ground := Go.Ground.phase }, { on := 6, ground := Go.Ground.phase }, { on := 7, ground := Go.Ground.phase }, { on := 8, ground := Go.Ground.phase }, { on := 9, ground := Go.Ground.phase }], guard := none }) (v := ?_) rfl (by kernel_rfl) (by kernel_rfl) (by kernel_rfl) (fun _ _ _ h => h) (Or.inl ⟨by rfl, ?_⟩) (by assumption) ?_
          rotate_left
          · intro wS hSw
            (try dsimp only at hSw)
            go_simp
            (try with_reducible rfl)
          (try simp only [Act.put, List.setIfInBounds_toArray, List.set_cons_zero, List.set_cons_succ])
          refine wpAnyH_ready (rs := [12]) (by kernel_rfl) (by simp) ?_
          refine AllReadyH.cons (o := { dst := none, op := Go.Op.store 149 (Go.Operand.tmp 57) (Go.Operand.tmp 55), type := 0, pos := "sha.go:89", after := #[{ on := 11, ground := Go.Ground.data }, { on := 9, ground := Go.Ground.data }, { on := 9, ground := Go.Ground.chain }, { on := 0, ground := Go.Ground.phase }, { on := 1, ground := Go.Ground.phase }, { on := 2, ground := Go.Ground.phase }, { on := 3, ground := Go.Ground.phase }, { on := 4, ground := Go.Ground.phase }, { on := 5, ground := Go.Ground.phase }, { on := 6, ground := Go.Ground.phase }, { on := 7, ground := Go.Ground.phase }, { on := 8, ground := Go.Ground.phase }, { on := 9, ground := Go.Ground.phase }], guard := none }) rfl (fun K hK => ?_) AllReadyH.nil
          (refine step_storeM rfl 149 (.tmp 57) (.tmp 55) rfl g 0 CM rfl rfl HTH.out HJ1.out HJ2.out ?_; obtain ⟨w9, hw9⟩ : ∃ q', v_7.setCells g 0 CM.toList = q' := ⟨_, rfl⟩; rw [hw9]; skip)
          refine hK.out _ _ ?_ (fun hHeld => ?_)
          · (try dsimp only)
            all_goals (first | trivial | assumption)
          clear hK K
          (try simp only [Act.put, List.setIfInBounds_toArray, List.set_cons_zero, List.set_cons_succ])
          refine wpAnyH_done (by kernel_rfl) ?_ _
          have H9 : HB w9 g (chK FG (q + 1)) R' 64 N := by rw [← hw9, ← hCM]; exact H8.out.words _
          have O9 : Own g w w9 := by rw [← hw9]; exact O8.out.trans (Own.setCells _ _ _)
          have OW9 : Own g wr w9 := by rw [← hw9]; exact OW8.out.trans (Own.setCells _ _ _)
          have c9 := H9.held
          have z9 : w9.frozen? ⟨g, 72, none⟩ = false := Blk.free H9 _
          obtain ⟨w10, hw10⟩ : ∃ q, w9.setCell ⟨g, 72, none⟩ (.int .i64 0) = q := ⟨_, rfl⟩
          have HX : Hid (WI FG g N (n + (j + s)) w10) := Lib.hid (by
            have h1 := HNUM.out
            refine ⟨R', ?_, fun i hi => ?_, HR2'.out⟩
            · rw [show (n + (j + s)) / 64 = q + 1 by omega, show (n + (j + s)) % 64 = 0 by omega, ← hw10]; exact H9.setk 0
            · rw [show (n + (j + s)) % 64 = 0 by omega] at hi; exact absurd hi (Nat.not_lt_zero _))
          have O10 : Hid (Own g w w10) := Lib.hid (by rw [← hw10]; exact O9.set 72 _)
          have hO : Own g wr w10 := by rw [← hw10]; exact OW9.set 72 _
          have HBF : Hid (Bytes w10 (some ⟨b, off + s, none⟩) (m - (j + s)) (fun i => G (j + s + i))) := Lib.hid (by have := HNUM.out; rw [show m - (j + s) = l - s by omega]; exact HBYN.out _ hO)
          clear H8 O8 OW8 H9 O9 OW9 hO HRW HRR H6D O6D OWD HMX HBYN hw9 hCM HTH
          go_wp2_with fail
          clear hw10 c9 z9
          have HNE' : Hid (∀ x, some (⟨b, off + s, none⟩ : Addr) = some x → 0 < m - (j + s) → x.block ≠ g) := Lib.hid fun x hx _ => by cases hx; exact HBG.out
          go_roundw
          case rel => exact ⟨j + s, _, some ⟨b, off + s, none⟩, by have := HNUM.out; omega, (by have h9 : m - (j + s) = l - s := (by have := HNUM.out; omega); first | (rw [h9]; done) | (rw [h9]; congr 1; omega)), by have := HNUM.out; omega, HBF.out, HNE'.out, HX.out, O10.out⟩
          case measure => simp [lenV]; omega
        · have hu' : ¬ (u : Int) = 64 := by omega
          have HU : Hid (u ≠ 64) := Lib.hid hu
          have hO := OW.out
          have HBF : Hid (Bytes w6 (some ⟨b, off + s, none⟩) (m - (j + s)) (fun i => G (j + s + i))) := Lib.hid (by have := HNUM.out; rw [show m - (j + s) = l - s by omega]; exact HBYN.out _ hO)
          clear hu hO OW HBYN hL1 hL2
          go_wp2_with fail
          have HX : Hid (WI FG g N (n + (j + s)) w6) := Lib.hid (by
            have h1 := HNUM.out
            have h2 := HU.out
            refine ⟨R', ?_, fun i hi => ?_, HR2'.out⟩
            · rw [show (n + (j + s)) / 64 = q by omega, show (n + (j + s)) % 64 = u by omega]; exact H6'.out
            · rw [show (n + (j + s)) / 64 = q by omega]; exact HR1'.out i (by omega))
          have HNE' : Hid (∀ x, some (⟨b, off + s, none⟩ : Addr) = some x → 0 < m - (j + s) → x.block ≠ g) := Lib.hid fun x hx _ => by cases hx; exact HBG.out
          go_roundw
          case rel => exact ⟨j + s, _, some ⟨b, off + s, none⟩, by have := HNUM.out; omega, (by have h9 : m - (j + s) = l - s := (by have := HNUM.out; omega); first | (rw [h9]; done) | (rw [h9]; congr 1; omega)), by have := HNUM.out; omega, HBF.out, HNE'.out, HX.out, O6'.out⟩
          case measure => simp [lenV]; omega
end Go.Proofs.YtncfocjmdecapaaGreatDoor
