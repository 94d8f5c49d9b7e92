/- GCM: a key, made; a tag. GCM: bytes, block by block. GCM: what a round keeps. -/
import Derived.Deep.MidRow
import Derived.LoopNIn
import Derived.LoopIn
import Derived.Test.YtncfocjmdecapaaGreatDoorZB0
import Derived.Test.YtncfocjmdecapaaGreatDoorZS1
import Derived.Test.YtncfocjmdecapaaGreatDoorZS2
import Derived.Test.YtncfocjmdecapaaGreatDoorZSh4
import Derived.Test.YtncfocjmdecapaaGreatDoorZA0
import Derived.Test.YtncfocjmdecapaaGreatDoorZS5
import Derived.Test.YtncfocjmdecapaaGreatDoorZS8
import Derived.Test.YtncfocjmdecapaaGreatDoorZHm2
import Derived.Test.YtncfocjmdecapaaGreatDoorZAs
import Derived.Test.YtncfocjmdecapaaGreatDoorZR0
import Derived.Test.YtncfocjmdecapaaGreatDoorZK0
import Derived.Test.YtncfocjmdecapaaGreatDoorZK4
import Derived.Test.YtncfocjmdecapaaGreatDoorZKr5
import Derived.Test.YtncfocjmdecapaaGreatDoorZF1
import Derived.Test.YtncfocjmdecapaaGreatDoorZF2
import Derived.Test.YtncfocjmdecapaaGreatDoorZB16
import Derived.Test.YtncfocjmdecapaaGreatDoorZAe1
import Derived.Test.YtncfocjmdecapaaGreatDoorZAe2
import Derived.Test.YtncfocjmdecapaaGreatDoorZAe4
import Derived.Test.YtncfocjmdecapaaGreatDoorZAe5
import Derived.Test.YtncfocjmdecapaaGreatDoorZQ0
import Derived.Test.YtncfocjmdecapaaGreatDoorZQ6
import Derived.Test.YtncfocjmdecapaaGreatDoorZGh10
import Derived.Test.YtncfocjmdecapaaGreatDoorZC0
namespace Go.Proofs.YtncfocjmdecapaaGreatDoor
set_option linter.unusedVariables false
set_option linter.unusedSimpArgs false
set_option linter.unusedVariables false
set_option linter.unusedSimpArgs false
open Go.RowKit
theorem build_gk (kb : Nat) (H : Nat → Nat) (w : World) : (Instr.build 116 #[(0, .pointer (some ⟨kb, 0, none⟩)), (1, .agg (rowC 16 H).toArray)]).run Tryz.prog w = .ok (.agg (gkC kb H).toArray) w := run_build w 116 _ _ (by kernel_rfl)
theorem wpList_buildG {ops : Array Oper} {rest : List Oper} {o : Oper} {a : Act} {w : World} {Q : Exit → Act → World → Prop} {C : Array Value} (hgd : o.guard = none) (parts : Array (Nat × Operand)) (ps : Array (Nat × Value)) (ho : o.op = .build 116 parts) (hp : (parts.map fun (i, x) => (i, a.eval x)) = ps) (h : ∀ w, (Instr.build 116 ps).run Tryz.prog w = .ok (.agg C) w)
    (hk : wpList Tryz.prog ops Q rest (a.put o.dst (.agg C)) w) : wpList Tryz.prog ops Q (o :: rest) a w := by
  refine wpList_plain hgd fun K hK => ?_
  unfold Oper.wp execOp
  simp only [ho, hp, Sem.run_bind, h, Result.andThen_ok]
  exact hK _ _ hk
theorem KG.range {w : World} {g kb bx : Nat} {W : Nat → Nat} (h : KG w g kb bx W) : w.rangeAt g 1 (rowC 16 (h0F W)) := fun j v hv => by
  rw [Blk.cell h.me, List.getElem?_toArray]
  show (Value.pointer (some ⟨kb, 0, none⟩) :: rowC 16 (h0F W))[1 + j]? = some v
  rw [Nat.add_comm, List.getElem?_cons_succ]; exact hv
/-- A key has come to be. -/
def GS (w0 : World) (W : Nat → Nat) (g kb bx : Nat) (w : World) : Prop := KG w g kb bx W ∧ Below w0.heap.size w0 w ∧ w0.heap.size ≤ bx ∧ w0.heap.size ≤ g ∧ w0.heap.size ≤ kb
set_option maxRecDepth 100000 in
set_option maxHeartbeats 4000000 in
theorem gnew_any (f : Nat → Nat) (oa : Option Addr) (cap : Nat) (w : World) (hb : Bytes w oa 32 f) :
    Calls Tryz.prog 35 #[.slice oa 32 cap] w fun e w' => ∃ g kb bx, e = .returned (.tuple #[.pointer (some ⟨g, 0, none⟩), .nilIface]) ∧ GS w (exK f 60) g kb bx w' := by
  have HNW := Lib.hid (new_any f oa cap w hb)
  clear hb
  have HZ : Hid (∀ w, (Instr.build 82 #[]).run Tryz.prog w = .ok (.agg zero16) w) := Lib.hid build_none
  obtain ⟨H, hH⟩ : ∃ q, (rowC 16 (h0F (exK f 60))).toArray = q := ⟨_, rfl⟩
  have HH := Lib.hid hH
  clear hH
  go_enter Tryz.func35, Tryz.ntmps35
  go_wp2_with fail
  refine HNW.out.mono ?_
  rintro e w1 ⟨kb, bx, rfl, hK1, hB1, hb1, hx1, hx2⟩
  clear HNW
  have HS1 := Lib.hid (show KeyB w1 kb (exK f 60) bx ∧ BoxIn w1 bx ∧ Below w.heap.size w w1 ∧ w.heap.size ≤ bx ∧ bx < kb from ⟨hK1, hB1, hb1, hx1, hx2⟩)
  have HENC : Hid (Calls Tryz.prog 55 #[.pointer (some ⟨kb, 0, none⟩), .agg zero16] w1 fun e w'' => e = .returned (.agg H) ∧ BoxIn w'' bx ∧ Own bx w1 w'') := Lib.hid (by
    rw [← HH.out]
    exact enc_any kb bx (exK f 60) (fun _ => 0) w1 hK1 hB1 (by omega) (fun _ _ => Nat.zero_lt_succ _))
  have HBG : Hid (∀ w, (Instr.build 116 #[(0, .pointer (some ⟨kb, 0, none⟩)), (1, .agg H)]).run Tryz.prog w = .ok (.agg (gkC kb (h0F (exK f 60))).toArray) w) := Lib.hid (HH.out ▸ build_gk kb _)
  obtain ⟨G, hG⟩ : ∃ q, (gkC kb (h0F (exK f 60))).toArray = q := ⟨_, rfl⟩
  rw [hG] at HBG
  have HG := Lib.hid hG
  clear hK1 hB1 hb1 hx1 hx2 hG
  go_wp2_with (first | (refine wpList_build16 rfl #[] #[] rfl (by simp) HZ.out ?_))
  refine HENC.out.mono ?_
  rintro e w2 ⟨rfl, hB2, hO2⟩
  have HS2 := Lib.hid (show KeyB w2 kb (exK f 60) bx ∧ BoxIn w2 bx ∧ Below w.heap.size w w2 ∧ w.heap.size ≤ bx ∧ bx < kb from by
    obtain ⟨a1, a2, a3, a4, a5⟩ := HS1.out
    exact ⟨hO2.blk a1 (by omega), hB2, a3.trans (hO2.below a4 a3.size), a4, a5⟩)
  clear hB2 hO2 HENC HS1
  go_wp2_with (first | (refine wpList_buildG rfl #[(0, Go.Operand.tmp 14), (1, Go.Operand.tmp 17)] #[(0, .pointer (some ⟨kb, 0, none⟩)), (1, .agg H)] rfl (by simp; exact ⟨rfl, rfl⟩) HBG.out ?_))
  refine bodyPost_ret (results_tmp2 rfl _ _ _) rfl ?_
  obtain ⟨a1, a2, a3, a4, a5⟩ := HS2.out
  have hb : Below w2.heap.size w2 (w2.alloc (.cells G 116)) := (Below.refl _ _).alloc (Nat.le_refl _) _
  refine ⟨w2.heap.size, kb, bx, rfl, ⟨?_, Blk.below a1 hb (Blk.lt a1), a2.below hb, ?_, by omega⟩, a3.trans (hb.mono a3.size), a4, a3.size, by omega⟩
  · rw [HG.out]; exact Blk.new _ _ _
  · have := a2.lt; omega
set_option maxRecDepth 100000 in
set_option maxHeartbeats 4000000 in
theorem tag_any (g kb bx : Nat) (W nn c a : Nat → Nat) (cn an : Nat) (on oc oa : Option Addr) (capn capc capa : Nat) (w : World) (hK : KG w g kb bx W) (hn : Bytes w on 12 nn) (hc : Bytes w oc cn c) (ha : Bytes w oa an a)
    (hnb : ∀ ad, on = some ad → ad.block ≠ bx) (h1 : cn ≤ capc) (h2 : an ≤ capa) (h3 : capc ≤ maxLen) (h4 : capa ≤ maxLen) (h5 : cn < 1000000) (h6 : an < 1000000) :
    Calls Tryz.prog 37 #[.pointer (some ⟨g, 0, none⟩), .slice on 12 capn, .slice oc cn capc, .slice oa an capa] w fun e w' => e = .returned (.agg (rowC 16 (tgF W nn a an c cn)).toArray) ∧ KG w' g kb bx W ∧ Own bx w w' := by
  have hz := zero16_run
  obtain ⟨H, hH⟩ : ∃ q, (rowC 16 (h0F W)).toArray = q := ⟨_, rfl⟩
  obtain ⟨S, hS⟩ : ∃ q, (rowC 16 (hashF (h0F W) a an c cn)).toArray = q := ⟨_, rfl⟩
  obtain ⟨M, hM⟩ : ∃ q, (rowC 16 (cW W nn 1)).toArray = q := ⟨_, rfl⟩
  obtain ⟨T, hT⟩ : ∃ q, (rowC 16 (tgF W nn a an c cn)).toArray = q := ⟨_, rfl⟩
  have HT := Lib.hid hT
  have hnn : ∀ i, i < 12 → nn i < 256 := fun i hi => (hn i hi).1
  obtain ⟨wa, hwa⟩ : ∃ x, w.alloc (.cells zero16 82) = x := ⟨_, rfl⟩
  have hba : Below w.heap.size w wa := by rw [← hwa]; exact (Below.refl _ _).alloc (Nat.le_refl _) _
  have hZa : Blk wa w.heap.size zero16 82 := by rw [← hwa]; exact Blk.new w zero16 82
  have hKa := hK.below hba
  have HLD : Hid (wa.rangeAt g 1 (rowC 16 (h0F W))) := Lib.hid hKa.range
  have HHC : Hid ((rowC 16 (h0F W)).toArray = H) := Lib.hid hH
  have HHA : Hid (Calls Tryz.prog 59 #[.agg H, .slice oa an capa, .slice oc cn capc] wa fun e w' => e = .returned (.agg S) ∧ Below wa.heap.size wa w') := Lib.hid (by
    rw [← hH, ← hS]
    exact hash_anyG (h0F W) a c oa oc an cn capa capc wa (h0F_lt W) (ha.later hba) (hc.later hba) h2 h1 h4 h3 h6 h5)
  have HCT : Hid (∀ w', Below w.heap.size w w' → KG w' g kb bx W → Calls Tryz.prog 57 #[.pointer (some ⟨g, 0, none⟩), .slice on 12 capn, .int .u32 1] w' fun e w'' => e = .returned (.agg M) ∧ KG w'' g kb bx W ∧ Own bx w' w'') := Lib.hid fun w' hb hk => by
    rw [← hM]
    exact counter_any g kb bx W nn 1 on capn w' hk (hn.later hb) (by decide)
  have HAD : Hid (∀ w', Calls Tryz.prog 58 #[.agg S, .agg M] w' fun e w'' => e = .returned (.agg T) ∧ Below w'.heap.size w' w'') := Lib.hid fun w' => by
    rw [← hS, ← hM, ← hT]
    exact gadd_any _ _ w' (fun i _ => mulF_lt _ _ i) (cW_lt hnn)
  have HTC : Hid (∃ f, T = (rowC 16 f).toArray) := Lib.hid ⟨_, hT.symm⟩
  have HZC : Hid (∃ f, zero16 = (rowC 16 f).toArray) := Lib.hid ⟨_, rfl⟩
  have HIT : Hid ((Tryz.prog.info? 82).map (·.size) = some T.size) := Lib.hid (hT ▸ info16 _)
  have HI16 : Hid ((Tryz.prog.info? 82).map (·.size) = some (rowC 16 (h0F W)).length) := Lib.hid (by rw [rowC_len]; exact size16)
  have HS0 : Hid (KG wa g kb bx W ∧ Blk wa w.heap.size zero16 82 ∧ Below w.heap.size w wa) := Lib.hid ⟨hKa, hZa, hba⟩
  have HK := Lib.hid hK
  have HXL := Lib.hid hK.lt
  clear hK hn hc ha hnb h1 h2 h3 h4 h5 h6 hH hS hM hT hnn hba hZa hKa
  go_enter Tryz.func37, Tryz.ntmps37
  go_wp2_with (first | (refine wpList_load_mid rfl 82 (.tmp 11) rfl g 1 rfl (rowC 16 (h0F W)) _ ?_ Tryz.underlying82 rfl HI16.out ?_; exact HLD.out; rw [HHC.out]))
  refine HHA.out.mono ?_
  rintro e w1 ⟨rfl, hb1⟩
  have HS1 : Hid (KG w1 g kb bx W ∧ Blk w1 w.heap.size zero16 82 ∧ Below w.heap.size w w1) := Lib.hid (by
    obtain ⟨a1, a2, a3⟩ := HS0.out
    exact ⟨a1.below hb1, Blk.below a2 hb1 (Blk.lt a2), a3.trans (hb1.mono a3.size)⟩)
  clear hb1 HS0 HLD HHA
  go_wp2_with fail
  refine (HCT.out w1 HS1.out.2.2 HS1.out.1).mono ?_
  rintro e w2 ⟨rfl, hk2, hO2⟩
  have HS2 : Hid (KG w2 g kb bx W ∧ Blk w2 w.heap.size zero16 82 ∧ Own bx w w2) := Lib.hid (by
    obtain ⟨a1, a2, a3⟩ := HS1.out
    exact ⟨hk2, hO2.blk a2 (by have := HXL.out; omega), (Own.of_below a3).trans hO2⟩)
  clear hk2 hO2 HS1 HCT
  go_wp2_with fail
  refine (HAD.out w2).mono ?_
  rintro e w3 ⟨rfl, hb3⟩
  have HS3 : Hid (KG w3 g kb bx W ∧ Blk w3 w.heap.size zero16 82 ∧ Own bx w w3) := Lib.hid (by
    obtain ⟨a1, a2, a3⟩ := HS2.out
    exact ⟨a1.below hb3, Blk.below a2 hb3 (Blk.lt a2), a3.trans (Own.of_below hb3)⟩)
  clear hb3 HS2
  have HS4 : Hid (KG (w3.setCells w.heap.size 0 T.toList) g kb bx W ∧ Blk (w3.setCells w.heap.size 0 T.toList) w.heap.size T 82 ∧ Own bx w (w3.setCells w.heap.size 0 T.toList)) := Lib.hid (by
    obtain ⟨a1, a2, a3⟩ := HS3.out
    have hO : Own w.heap.size w3 (w3.setCells w.heap.size 0 T.toList) := Own.setCells _ _ _
    exact ⟨HK.out.low a1 (hO.below (Nat.le_refl _) a3.size), Blk.store16 a2 HTC.out HZC.out, a3.two hO (Nat.le_refl _)⟩)
  go_wp2_with (first | (refine wpList_store16 rfl (.tmp 8) (.tmp 19) rfl w.heap.size rfl T zero16 rfl HS3.out.2.1 HTC.out HZC.out ?_))
  generalize w3.setCells w.heap.size 0 T.toList = w4 at *
  refine bodyPost_ret (v := .agg T) ?_ rfl ⟨by rw [HT.out], HS4.out.1, HS4.out.2.2⟩
  exact results_cell_row Tryz.results37 _ _ w.heap.size 82 T (0, 0) _ rfl HS4.out.2.1 Tryz.underlying82 rfl HIT.out
end Go.Proofs.YtncfocjmdecapaaGreatDoor
namespace Go.Proofs.YtncfocjmdecapaaGreatDoor
set_option linter.unusedVariables false
set_option linter.unusedSimpArgs false
set_option linter.unusedVariables false
set_option linter.unusedSimpArgs false
open Go.RowKit
/-- What is left of bytes ahead of block i. -/
def NBG (b off n cap i : Nat) (v : Value) : Prop := (16 * i < n ∧ v = .slice (some ⟨b, off + 16 * i, none⟩) (n - 16 * i) (cap - 16 * i)) ∨ (n ≤ 16 * i ∧ ∃ a c, v = .slice a 0 c)
def GB (Bn b off n cap i : Nat) (A : World) : Prop := ∃ v, Blk A Bn #[v] 24 ∧ NBG b off n cap i v
def RBG (Bn b off n cap i : Nat) (A B : World) : Prop := ∃ v, NBG b off n cap (i + 1) v ∧ B = A.setCell ⟨Bn, 0, none⟩ v
def EB (b off n cap i : Nat) : Array Value := #[.int .u32 ((2 + i : Nat) : Int), .slice (some ⟨b, off + 16 * i, none⟩) (min 16 (n - 16 * i)) (cap - 16 * i)]
set_option maxHeartbeats 4000000 in
set_option maxRecDepth 100000 in
theorem blocks_seq (Bn b off n cap N : Nat) (hN : (n + 15) / 16 = N) (hc : n ≤ cap) (hm : cap ≤ maxLen) (hs : n < 1000000) :
    Seq Tryz.prog 81 #[.pointer (some ⟨Bn, 0, none⟩)] (EB b off n cap) N (RBG Bn b off n cap) (GB Bn b off n cap) := by
  intro l J J' Jx W hG hJd hJxd hR hY h0
  have HG : Hid (∀ i A, J i A → GB Bn b off n cap i A) := Lib.hid hG
  have HR : Hid (∀ i A B, i < N → J i A → RBG Bn b off n cap i A B → J' i B) := Lib.hid hR
  have HY := Lib.hid hY
  have HN := Lib.hid (show (n + 15) / 16 = N ∧ n < 1000000 ∧ n ≤ cap ∧ cap ≤ maxLen from ⟨hN, hs, hc, hm⟩)
  clear hG hJd hJxd hR hY hN hs hc hm
  go_enter Tryz.func81, Tryz.ntmps81
  go_wp2_with fail
  go_loopw [3] (fun y wr => ∃ i : Nat, i ≤ N ∧ y = .int .u32 ((2 + i : Nat) : Int) ∧ J i wr) (fun y _ => N + 2 - (intOf y).toNat)
  case atStart => exact ⟨0, Nat.zero_le _, rfl, h0⟩
  case round =>
    obtain ⟨i, hi, rfl, hJ⟩ := hrel
    obtain ⟨v, hB, hv⟩ := HG.out i wr hJ
    have c0 : wr.cell? ⟨Bn, 0, none⟩ = some v := by rw [Blk.cell hB]; rfl
    have f0 : wr.frozen? ⟨Bn, 0, none⟩ = false := Blk.free hB _
    by_cases hlt : i < N
    · have h16 : 16 * i < n := by have := HN.out; omega
      rcases hv with ⟨_, rfl⟩ | ⟨hx, _⟩
      rotate_left
      · omega
      have HE : Hid (EB b off n cap i = #[.int .u32 ((2 + i : Nat) : Int), .slice (some ⟨b, off + 16 * i, none⟩) (min 16 (n - 16 * i)) (cap - 16 * i)]) := Lib.hid rfl
      have HV : Hid (∀ v, NBG b off n cap (i + 1) v → J' i (wr.setCell ⟨Bn, 0, none⟩ v)) := Lib.hid fun v h => HR.out i wr _ hlt hJ ⟨v, h, rfl⟩
      obtain ⟨o, ho⟩ : ∃ y, off + 16 * i = y := ⟨_, rfl⟩
      obtain ⟨m, hm⟩ : ∃ y, n - 16 * i = y := ⟨_, rfl⟩
      obtain ⟨c, hc⟩ : ∃ y, cap - 16 * i = y := ⟨_, rfl⟩
      have HO := Lib.hid (show off + 16 * i = o ∧ n - 16 * i = m ∧ cap - 16 * i = c from ⟨ho, hm, hc⟩)
      rw [ho, hm, hc] at c0 HE
      have hn := HN.out
      have hmc : m ≤ c := by omega
      have hm0 : 0 < m := by omega
      have hcl : c ≤ maxLen := by omega
      have hmx : m < 1000000 := by omega
      have e0 : (0 : Int) < (m : Int) := by omega
      have HI := Lib.hid hi
      have HL := Lib.hid hlt
      clear hn ho hm hc hJ hB h16 hi hlt h0
      by_cases h6 : 16 ≤ m
      · have e1 : (16 : Int) ≤ (m : Int) := by omega
        have e2 : (16 : Int) ≤ (c : Int) := by omega
        have HE2 : Hid (EB b off n cap i = #[.int .u32 (2 + (i : Int)), .slice (some ⟨b, o, none⟩) 16 c]) := Lib.hid (by
          rw [HE.out, show min 16 m = 16 by omega, show ((2 + i : Nat) : Int) = 2 + (i : Int) by omega])
        have HA : Hid (∀ a, (16 < m → a = some ⟨b, o + 16, none⟩) → NBG b off n cap (i + 1) (.slice a (m - 16) (c - 16))) := Lib.hid fun a ha => by
          obtain ⟨h1, h2, h3⟩ := HO.out
          by_cases h : 16 * (i + 1) < n
          · exact Or.inl ⟨h, by rw [ha (by omega), show off + 16 * (i + 1) = o + 16 by omega, show n - 16 * (i + 1) = m - 16 by omega, show cap - 16 * (i + 1) = c - 16 by omega]⟩
          · exact Or.inr ⟨by omega, a, c - 16, by rw [show m - 16 = 0 by omega]⟩
        clear HE
        go_upto_region 5 with fail
        generalize hv : (@ite (Option Addr) (c = 16) _ _ _) = a0
        have HJ1 := Lib.hid (HV.out (.slice a0 (m - 16) (c - 16)) (HA.out a0 (fun h => by rw [← hv, if_neg (by omega)])))
        clear hv
        generalize Value.slice a0 (m - 16) (c - 16) = V0 at *
        obtain ⟨W1, hW1⟩ : ∃ q, wr.setCell ⟨Bn, 0, none⟩ V0 = q := ⟨_, rfl⟩
        rw [hW1] at HJ1 ⊢
        clear hW1
        obtain ⟨fn, tmps, assign, body, hy, hRd⟩ := HY.out i W1 HL.out HJ1.out
        have HRD := Lib.hid hRd
        clear hRd f0 c0
        rw [HE2.out] at hy
        have k3 : IntKind.u32.wrap (2 + (i : Int) + 1) = ((2 + (i + 1) : Nat) : Int) := by
          have := HN.out; have := HL.out
          simp [IntKind.wrap, IntKind.bits, IntKind.signed]; omega
        refine (wpIn_wide (n := 0)).1 ?_
        gi_wp2
        refine ⟨rfl, ?_⟩
        refine HRD.out.mono ?_
        rintro e W' (⟨rfl, hJ2⟩ | ⟨rfl, hJx⟩)
        · gi_wp2
          clear hy
          go_wp2_with fail
          go_roundw
          case rel => exact ⟨i + 1, HL.out, rfl, hJ2⟩
          case measure => have := HL.out; simp [intOf]; omega
        · gi_wp2
          clear hy
          go_wp2_with fail
          refine bodyPost_ret (results_none rfl _ _ _) rfl ?_
          exact ⟨⟨_, rfl⟩, .inr hJx⟩
      · have e1 : ¬ (16 : Int) ≤ (m : Int) := by omega
        have HE2 : Hid (EB b off n cap i = #[.int .u32 (2 + (i : Int)), .slice (some ⟨b, o, none⟩) m c]) := Lib.hid (by
          rw [HE.out, show min 16 m = m by omega, show ((2 + i : Nat) : Int) = 2 + (i : Int) by omega])
        have HA : Hid (∀ a k, NBG b off n cap (i + 1) (.slice a 0 k)) := Lib.hid fun a k => by
          obtain ⟨h1, h2, h3⟩ := HO.out
          exact Or.inr ⟨by omega, a, k, rfl⟩
        clear HE
        go_upto_region 5 with fail
        generalize hv : (@ite (Option Addr) (c = m) _ _ _) = a0
        have HJ1 := Lib.hid (HV.out (.slice a0 0 (c - m)) (HA.out a0 _))
        clear hv
        generalize Value.slice a0 0 (c - m) = V0 at *
        obtain ⟨W1, hW1⟩ : ∃ q, wr.setCell ⟨Bn, 0, none⟩ V0 = q := ⟨_, rfl⟩
        rw [hW1] at HJ1 ⊢
        clear hW1
        obtain ⟨fn, tmps, assign, body, hy, hRd⟩ := HY.out i W1 HL.out HJ1.out
        have HRD := Lib.hid hRd
        clear hRd f0 c0
        rw [HE2.out] at hy
        have k3 : IntKind.u32.wrap (2 + (i : Int) + 1) = ((2 + (i + 1) : Nat) : Int) := by
          have := HN.out; have := HL.out
          simp [IntKind.wrap, IntKind.bits, IntKind.signed]; omega
        refine (wpIn_wide (n := 0)).1 ?_
        gi_wp2
        refine ⟨rfl, ?_⟩
        refine HRD.out.mono ?_
        rintro e W' (⟨rfl, hJ2⟩ | ⟨rfl, hJx⟩)
        · gi_wp2
          clear hy
          go_wp2_with fail
          go_roundw
          case rel => exact ⟨i + 1, HL.out, rfl, hJ2⟩
          case measure => have := HL.out; simp [intOf]; omega
        · gi_wp2
          clear hy
          go_wp2_with fail
          refine bodyPost_ret (results_none rfl _ _ _) rfl ?_
          exact ⟨⟨_, rfl⟩, .inr hJx⟩
    · obtain rfl : N = i := by omega
      have HJ := Lib.hid hJ
      rcases hv with ⟨hx, _⟩ | ⟨_, a, c, rfl⟩
      · have := HN.out; omega
      clear hJ h0
      go_wp2_with fail
      go_end0
      exact ⟨⟨_, rfl⟩, .inl HJ.out⟩
end Go.Proofs.YtncfocjmdecapaaGreatDoor
namespace Go.Proofs.YtncfocjmdecapaaGreatDoor
set_option linter.unusedVariables false
set_option linter.unusedSimpArgs false
set_option linter.unusedVariables false
set_option linter.unusedSimpArgs false
open Go.RowKit
/-- make of an empty row with room. -/
theorem wpList_mk0 {ops : Array Oper} {rest : List Oper} {o : Oper} {a : Act} {w : World} {Q : Exit → Act → World → Prop} (hgd : o.guard = none) (x y : Operand) (ho : o.op = .makeSlice 24 x y) (c base : Nat) (hx : a.eval x = .int .i64 0) (hy : a.eval y = .int .i64 (c : Int)) (hc : c < 1000000000000) (hb : base ≤ w.heap.size)
    (h : ∀ w', (∀ f, Grow w' base (.slice (some ⟨w.heap.size, 0, none⟩) 0 c) 0 f) → w.grownBy w' none → wpList Tryz.prog ops Q rest (a.put o.dst (.slice (some ⟨w.heap.size, 0, none⟩) 0 c)) w') :
    wpList Tryz.prog ops Q (o :: rest) a w := by
  obtain ⟨i0, hi, hz0, hz1, hz2⟩ := info_parts info_u8
  obtain ⟨w', hr, hown, hg⟩ := run_make_own (P := Tryz.prog) w base 24 5 i0 (.int .u8 0) 1 Tryz.underlying24 hi hz0 hz1 .i64 .i64 c (by rw [hz2]; omega) (by unfold maxLen; omega) hb
  refine wpList_plain hgd fun K hK => ?_
  unfold Oper.wp execOp
  simp only [ho, hx, hy, Sem.run_bind, hr, Result.andThen_ok, Sem.run_pure]
  exact hK _ _ (h w' (fun f => hown) hg)

/-- Whatever is no block of bx and was there ahead of w0 lies as it lay; a key; a row that grows, and the variable that has it. -/
structure CP (b7 : Nat) (w0 : World) (g kb bx : Nat) (W nn p : Nat → Nat) (n : Nat) (on : Option Addr) (capn : Nat) (v : Value) (k : Nat) (A : World) : Prop where
  kp : Blk A w0.heap.size #[.pointer (some ⟨g, 0, none⟩)] 54
  np : Blk A (w0.heap.size + 1) #[.slice on 12 capn] 24
  grow : Grow A (w0.heap.size + 2) v k (cphF W nn p)
  apart : ∀ q, v.ownBlock = some q → q < b7 ∨ b7 + 1 < q
  key : KG A g kb bx W
  own : Own bx w0 A
  start : KG w0 g kb bx W
  place : w0.heap.size + 2 < b7 ∧ b7 + 1 < A.heap.size
section
variable {b7 g kb bx n capn k : Nat} {w0 A B : World} {W nn p : Nat → Nat} {on : Option Addr} {v : Value}
/-- A block that is none of these has turned. -/
theorem CP.other (h : CP b7 w0 g kb bx W nn p n on capn v k A) {c : Nat} (hO : Own c A B) (hc : w0.heap.size + 2 ≤ c) (hn : ∀ q, v.ownBlock = some q → q ≠ c) : CP b7 w0 g kb bx W nn p n on capn v k B := by
  have hp := h.place
  refine ⟨hO.blk h.kp (by omega), hO.blk h.np (by omega), h.grow.ownN hO hn, h.apart, h.start.low h.key (hO.below (by omega) (by omega)), h.own.two hO (by omega), h.start, hp.1, by have := hO.size; omega⟩
theorem CP.var (h : CP b7 w0 g kb bx W nn p n on capn v k A) {c : Nat} (hO : Own c A B) (hc : c = b7 ∨ c = b7 + 1) : CP b7 w0 g kb bx W nn p n on capn v k B :=
  h.other hO (by have := h.place; omega) (fun q hq => by have := h.apart q hq; omega)
theorem CP.later (h : CP b7 w0 g kb bx W nn p n on capn v k A) (hb : Below A.heap.size A B) : CP b7 w0 g kb bx W nn p n on capn v k B := by
  have hp := h.place
  exact h.other (Own.of_below hb : Own A.heap.size A B) (by omega) (fun q hq => by have := h.grow.lt q hq; omega)
/-- The key's cipher was asked. -/
theorem CP.asked (h : CP b7 w0 g kb bx W nn p n on capn v k A) (hO : Own bx A B) (hK : KG B g kb bx W) : CP b7 w0 g kb bx W nn p n on capn v k B := by
  have hp := h.place
  have hl := h.start.lt
  refine ⟨hO.blk h.kp (by omega), hO.blk h.np (by omega), h.grow.ownN hO (fun q hq => by have := h.grow.lt q hq; omega), h.apart, hK, h.own.trans hO, h.start, hp.1, by have := hO.size; omega⟩
theorem CP.turned (h : CP b7 w0 g kb bx W nn p n on capn v k A) {b : Nat} (hT : Turned b A B) (hb : w0.heap.size ≤ b) : CP b7 w0 g kb bx W nn p n on capn v k B := by
  have hp := h.place
  refine ⟨hT.blk h.kp, hT.blk h.np, hT.grow h.grow, h.apart, ⟨hT.blk h.key.me, hT.blk h.key.key, ?_, h.key.gne, h.key.kne⟩, h.own.then_below (hT.below.mono hb) (Nat.le_refl _), h.start, hp.1, by rw [hT.size]; exact hp.2⟩
  rcases h.key.box with t | t
  · exact .inl ⟨hT.blk t.1, t.2⟩
  · exact .inr ⟨hT.blk t.1, t.2⟩
theorem CP.drew (h : CP b7 w0 g kb bx W nn p n on capn v k A) : CP b7 w0 g kb bx W nn p n on capn v k A.drew := h.later ⟨rfl, rfl, rfl, Nat.le_refl _, fun _ _ => rfl⟩
/-- The row grew. -/
theorem CP.grew (h : CP b7 w0 g kb bx W nn p n on capn v k A) {v' : Value} (hg : A.grownBy B v.ownBlock) (hG : Grow B (w0.heap.size + 2) v' (k + 1) (cphF W nn p)) (ho : v'.ownBlock = v.ownBlock ∨ ∃ q, v'.ownBlock = some q ∧ b7 + 1 < q) : CP b7 w0 g kb bx W nn p n on capn v' (k + 1) B := by
  have hp := h.place
  have hO := own_of_grown hg
  have hge := own_ge h.grow (by omega : w0.heap.size + 2 ≤ A.heap.size)
  refine ⟨hO.blk h.kp (by omega), hO.blk h.np (by omega), hG, fun q hq => ?_, h.start.low h.key (hO.below (by omega) (by omega)), h.own.two hO (by omega), h.start, hp.1, by have := hO.size; omega⟩
  rcases ho with e | ⟨q', e, hq'⟩
  · exact h.apart q (e ▸ hq)
  · rw [e] at hq; cases hq; exact .inr hq'
/-- Another block lies as it lay behind that. -/
theorem CP.grew_blk (h : CP b7 w0 g kb bx W nn p n on capn v k A) (hg : A.grownBy B v.ownBlock) {c : Nat} {C : Array Value} {t : TypeId} (hc : Blk A c C t) (hn : ∀ q, v.ownBlock = some q → q ≠ c) : Blk B c C t :=
  (own_of_grown hg).blk hc (by
    cases e : v.ownBlock with
    | none => simp; have := Blk.lt hc; omega
    | some q => simp; exact fun h' => hn q e h'.symm)
end
theorem GB.turned {Bn b off n cap i c : Nat} {A B : World} (h : GB Bn b off n cap i A) (hT : Turned c A B) : GB Bn b off n cap i B := by
  obtain ⟨v, h1, h2⟩ := h; exact ⟨v, hT.blk h1, h2⟩
theorem GB.own {Bn b off n cap i c : Nat} {A B : World} (h : GB Bn b off n cap i A) (hO : Own c A B) (hn : Bn ≠ c) : GB Bn b off n cap i B := by
  obtain ⟨v, h1, h2⟩ := h; exact ⟨v, hO.blk h1 hn, h2⟩
theorem GB.later {Bn b off n cap i : Nat} {A B : World} (h : GB Bn b off n cap i A) (hb : Below A.heap.size A B) : GB Bn b off n cap i B := by
  obtain ⟨v, h1, h2⟩ := h; exact ⟨v, Blk.below h1 hb (Blk.lt h1), h2⟩
theorem GB.drew {Bn b off n cap i : Nat} {A : World} (h : GB Bn b off n cap i A) : GB Bn b off n cap i A.drew := by
  obtain ⟨v, h1, h2⟩ := h; exact ⟨v, h1, h2⟩
set_option maxHeartbeats 1000000 in
theorem blocks_any (oa : Option Addr) (n cap : Nat) (w : World) : Calls Tryz.prog 56 #[.slice oa n cap] w fun e w' => e = .returned (.func (.func 81) #[] #[.pointer (some ⟨w.heap.size, 0, none⟩)]) ∧ w' = w.alloc (.cells #[.slice oa n cap] 24) := by
  go_enter Tryz.func56, Tryz.ntmps56
  go_wp2_with fail
  go_ret
  exact ⟨rfl, rfl⟩
end Go.Proofs.YtncfocjmdecapaaGreatDoor
