/- The document's GCM: a counter block, ciphered. The document's GCM: a key made ready; a tag. The document's GCM: a key made ready. The document's GCM: a tag. The document's GCM: bytes, ciphered. -/
import Derived.Test.YtkcbckafibjflaaGreatDoorGcW
import Derived.Test.YtkcbckafibjflaaGreatDoorAdC
import Derived.Test.YtkcbckafibjflaaGreatDoorGhC
namespace Go.Proofs.YtkcbckafibjflaaGreatDoor
set_option linter.unusedVariables false
set_option linter.unusedSimpArgs false
open Go.RowKit

/-- The document's key: its words, what stands for each byte, the block of noughts ciphered. -/
def kyL (W : Nat → Nat) : List Value := rowC 496 (cF W) ++ rowC 16 (h0F W)
def kyC (W : Nat → Nat) : Array Value := (kyL W).toArray
theorem kyC_size (W : Nat → Nat) : (kyC W).size = 512 := by unfold kyC kyL; simp [rowC_len]
theorem info_ky : (Tryz.prog.info? 42).map (·.size) = some 512 := by kernel_rfl
theorem info_ci : (Tryz.prog.info? 39).map (·.size) = some 496 := by kernel_rfl
theorem ky_words {w : World} {b : Nat} {W : Nat → Nat} (h : Blk w b (kyC W) 42) : w.rangeAt b 0 (rowC 496 (cF W)) := fun j u hu => by
  have hj : j < 496 := by have := (List.getElem?_eq_some_iff.1 hu).1; rw [rowC_len] at this; exact this
  rw [Nat.zero_add, Blk.cell h j]
  unfold kyC kyL
  rw [List.getElem?_toArray, List.getElem?_append_left (by rw [rowC_len]; exact hj)]; exact hu
theorem ky_h {w : World} {b : Nat} {W : Nat → Nat} (h : Blk w b (kyC W) 42) : w.rangeAt b 496 (rowC 16 (h0F W)) := fun j u hu => by
  have hj : j < 16 := by have := (List.getElem?_eq_some_iff.1 hu).1; rw [rowC_len] at this; exact this
  rw [Blk.cell h]
  unfold kyC kyL
  rw [List.getElem?_toArray, List.getElem?_append_right (by rw [rowC_len]; omega), rowC_len, Nat.add_sub_cancel_left]; exact hu
/-- The counter block as it is made: first the nonce, then the number's bytes from behind. -/
def cbF (nn : Nat → Nat) (c p : Nat) : Nat → Nat := fun i => if i < 12 then nn i else if p < i then numB c 4 (i - 12) else 0
def CB (w : World) (W : Nat → Nat) (bk br bb : Nat) (f : Nat → Nat) (wr : World) : Prop := Below w.heap.size w wr ∧ Blk wr bk (kyC W) 42 ∧ Blk wr br zero16 40 ∧ A16 wr bb f
theorem CB.set {w wr : World} {W f : Nat → Nat} {bk br bb : Nat} (h : CB w W bk br bb f wr) (hb : w.heap.size ≤ bk ∧ bk < br ∧ br < bb) (k x : Nat) : CB w W bk br bb (upd f k x) (wr.setCell ⟨bb, k, none⟩ (.int .u8 (x : Nat))) := by
  have hO : Own bb wr (wr.setCell ⟨bb, k, none⟩ (.int .u8 (x : Nat))) := (Own.refl _ _).set _ _
  exact ⟨h.1.trans (hO.below (by omega) h.1.size), hO.blk h.2.1 (by omega), hO.blk h.2.2.1 (by omega), h.2.2.2.set k x⟩
theorem CB.congr {w wr : World} {W f g : Nat → Nat} {bk br bb : Nat} (h : CB w W bk br bb f wr) (he : ∀ i, i < 16 → f i = g i) : CB w W bk br bb g wr := ⟨h.1, h.2.1, h.2.2.1, h.2.2.2.congr he⟩
set_option maxRecDepth 100000 in
set_option maxHeartbeats 4000000 in
theorem rcounter_any (W nn : Nat → Nat) (on : Option Addr) (cn c : Nat) (w : World) (hn : Bytes w on 12 nn) (hc : c < 4294967296) :
    Calls Tryz.prog 39 #[.agg (kyC W), .slice on 12 cn, .int .i64 (c : Int)] w fun e w' => e = .returned (.agg (rowC 16 (cW W nn c)).toArray) ∧ Below w.heap.size w w' := by
  obtain ⟨bk, hbk⟩ : ∃ y, w.heap.size = y := ⟨_, rfl⟩
  obtain ⟨w1, hw1⟩ : ∃ y, w.alloc (.cells (kyC W) 42) = y := ⟨_, rfl⟩
  obtain ⟨br, hbr⟩ : ∃ y, bk + 1 = y := ⟨_, rfl⟩
  obtain ⟨w2, hw2⟩ : ∃ y, w1.alloc (.cells zero16 40) = y := ⟨_, rfl⟩
  obtain ⟨bb, hbb⟩ : ∃ y, br + 1 = y := ⟨_, rfl⟩
  obtain ⟨w3, hw3⟩ : ∃ y, w2.alloc (.cells zero16 40) = y := ⟨_, rfl⟩
  have hz := zero16a_run
  have hs1 : w1.heap.size = br := by rw [← hw1, ← hbr, ← hbk]; simp
  have hs2 : w2.heap.size = bb := by rw [← hw2, ← hbb, ← hs1]; simp
  have b1 : Below w.heap.size w w1 := by rw [← hw1]; exact (Below.refl _ _).alloc (Nat.le_refl _) _
  have b2 : Below w1.heap.size w1 w2 := by rw [← hw2]; exact (Below.refl _ _).alloc (Nat.le_refl _) _
  have b3 : Below w2.heap.size w2 w3 := by rw [← hw3]; exact (Below.refl _ _).alloc (Nat.le_refl _) _
  have b12 := b1.trans (b2.mono b1.size)
  have b13 := b12.trans (b3.mono b12.size)
  have k1 : Blk w1 bk (kyC W) 42 := by rw [← hw1, ← hbk]; exact Blk.new _ _ _
  have k2 : Blk w2 br zero16 40 := by rw [← hw2, ← hs1]; exact Blk.new _ _ _
  have k3 : Blk w3 bb zero16 40 := by rw [← hw3, ← hs2]; exact Blk.new _ _ _
  have HLT := Lib.hid (show w.heap.size ≤ bk ∧ bk < br ∧ br < bb from ⟨by omega, by omega, by omega⟩)
  have H0 := Lib.hid (show CB w W bk br bb (fun _ => 0) w3 from ⟨b13, Blk.below (Blk.below k1 b2 (Blk.lt k1)) b3 (Blk.lt (Blk.below k1 b2 (Blk.lt k1))), Blk.below k2 b3 (Blk.lt k2), k3⟩)
  have HN := Lib.hid (hn.later b13)
  have HN0 := Lib.hid hn
  have HC := Lib.hid hc
  have HBK := Lib.hid hbk
  clear b1 b2 b3 b12 b13 k1 k2 k3 hn hc
  go_enter Tryz.func39, Tryz.ntmps39
  go_wp2_with fail
  go_loopw [8] (fun x wr => ∃ k : Nat, k ≤ 12 ∧ x = .int .i64 (k : Int) ∧ CB w W bk br bb (fun i => if i < k then nn i else 0) wr) (fun x _ => 12 - (intOf x).toNat)
  case atStart => exact ⟨0, Nat.zero_le _, rfl, H0.out.congr fun i _ => (if_neg (Nat.not_lt_zero _)).symm⟩
  case round =>
    obtain ⟨k, hk, rfl, hC⟩ := hrel
    have HK := Lib.hid hC
    by_cases hlt : k < 12
    · as_aux_lemma =>
      have k1 : (k : Int) < 12 := by omega
      have k0 : (0 : Int) ≤ (k : Int) := by omega
      have k2 : (k : Int) < 16 := by omega
      have k4 : IntKind.i64.wrap ((k : Int) + 1) = ((k + 1 : Nat) : Int) := by rw [IntWalk.i64_in _ (by omega)]; omega
      obtain ⟨h8, b0, o0, rfl, hc0⟩ := HN0.out k hlt
      have d0 : wr.cell? ⟨b0, o0 + k, none⟩ = some (.int .u8 (nn k : Nat)) := cell_below HK.out.1 hc0
      have d1 : wr.cell? ⟨bb, k, none⟩ = some (.int .u8 ((if k < k then nn k else 0 : Nat) : Int)) := A16.cell HK.out.2.2.2 (by omega)
      have d2 := Blk.free HK.out.2.2.2 k
      have HN1 := Lib.hid ((HK.out.set HLT.out k (nn k)).congr (g := fun i => if i < k + 1 then nn i else 0) fun i _ => by
        unfold upd
        by_cases e : i = k
        · rw [if_pos e, e, if_pos (Nat.lt_succ_self _)]
        · rw [if_neg e]
          show (if i < k then nn i else 0) = _
          by_cases e2 : i < k
          · rw [if_pos e2, if_pos (by omega)]
          · rw [if_neg e2, if_neg (by omega)])
      have HKK := Lib.hid (show k + 1 ≤ 12 ∧ k < 12 from ⟨hlt, hlt⟩)
      clear hC hc0 hlt hk h8
      go_wp2_with fail
      go_roundw
      case rel => exact ⟨k + 1, HKK.out.1, by first | rfl | go_num, HN1.out⟩
      case measure => have := HKK.out; simp [intOf]; omega
    · obtain rfl : k = 12 := by omega
      have HS2 := Lib.hid (HK.out.congr (g := cbF nn c 15) fun i hi => by
        unfold cbF
        by_cases e : i < 12
        · rw [if_pos e, if_pos e]
        · rw [if_neg e, if_neg e, if_neg (by omega)])
      clear hC hlt hk HK
      go_wp2_with fail
      go_loopw [2, 9] (fun y x wr => ∃ p q : Nat, 11 ≤ p ∧ p ≤ 15 ∧ x = .int .i64 (p : Int) ∧ y = .int .i64 (q : Int) ∧ q = c / 256 ^ (15 - p) ∧ CB w W bk br bb (cbF nn c p) wr) (fun _ x _ => (intOf x).toNat)
      case atStart => exact ⟨15, c, by decide, Nat.le_refl _, rfl, rfl, by simp, HS2.out⟩
      case round =>
        obtain ⟨p, q, hp1, hp2, rfl, rfl, hq, hC⟩ := hrel
        have HK := Lib.hid hC
        by_cases hlt : 12 ≤ p
        · as_aux_lemma =>
          have k1 : (12 : Int) ≤ (p : Int) := by omega
          have k0 : (0 : Int) ≤ (p : Int) := by omega
          have k2 : (p : Int) < 16 := by omega
          have k4 : IntKind.i64.wrap ((p : Int) - 1) = ((p - 1 : Nat) : Int) := by rw [IntWalk.i64_in _ (by omega)]; omega
          have k5 : (p : Int) - 1 = ((p - 1 : Nat) : Int) := by omega
          obtain ⟨r, hr⟩ : ∃ r, q % 256 = r := ⟨_, rfl⟩
          obtain ⟨u, hu⟩ : ∃ u, q / 256 = u := ⟨_, rfl⟩
          have hqc : q < 4294967296 := by
            have := HC.out
            have h9 := Nat.div_le_self c (256 ^ (15 - p))
            omega
          have m1 : (q : Int).tmod 256 = (r : Int) := tmk rfl hr
          have m2 : (q : Int) % 256 = (r : Int) := by omega
          have m3 : (q : Int).tdiv 256 = (u : Int) := tdk rfl hu
          have m4 : (q : Int) / 256 = (u : Int) := by omega
          have m5 : IntKind.u8.wrap (r : Int) = (r : Int) := by
            have : (r : Int) < 256 := by omega
            simp [IntKind.wrap, IntKind.bits, IntKind.signed]; omega
          have m6 : IntKind.i64.wrap (u : Int) = (u : Int) := IntWalk.i64_in _ (by omega)
          have m7 : IntKind.i64.wrap (r : Int) = (r : Int) := IntWalk.i64_in _ (by omega)
          have d1 : wr.cell? ⟨bb, p, none⟩ = some (.int .u8 (cbF nn c p p : Nat)) := A16.cell HK.out.2.2.2 (by omega)
          have d2 := Blk.free HK.out.2.2.2 p
          have hrn : r = numB c 4 (p - 12) := by
            rw [← hr, hq]; unfold numB
            rw [show 4 - 1 - (p - 12) = 15 - p by omega]
          have hun : u = c / 256 ^ (15 - (p - 1)) := by
            rw [← hu, hq, show 15 - (p - 1) = 15 - p + 1 by omega, Nat.pow_succ, Nat.div_div_eq_div_mul]
          have HN1 := Lib.hid ((HK.out.set HLT.out p r).congr (g := cbF nn c (p - 1)) fun i _ => by
            unfold upd cbF
            by_cases e : i = p
            · rw [if_pos e, e, if_neg (by omega), if_pos (by omega), hrn]
            · rw [if_neg e]
              by_cases e2 : i < 12
              · rw [if_pos e2, if_pos e2]
              · rw [if_neg e2, if_neg e2]
                by_cases e3 : p < i
                · rw [if_pos e3, if_pos (by omega)]
                · rw [if_neg e3, if_neg (by omega)])
          have HKK := Lib.hid (show 11 ≤ p - 1 ∧ p - 1 ≤ 15 ∧ u = c / 256 ^ (15 - (p - 1)) ∧ 12 ≤ p from ⟨by omega, by omega, hun, hlt⟩)
          clear hC hlt hp1 hp2 hq hr hu hrn hun hqc
          go_wp2_with fail
          go_roundw
          case rel => exact ⟨p - 1, u, HKK.out.1, HKK.out.2.1, by first | rfl | go_num, by first | rfl | go_num, HKK.out.2.2.1, HN1.out⟩
          case measure => have := HKK.out; simp [intOf]; omega
        · obtain rfl : p = 11 := by omega
          have HE := Lib.hid (show CB w W bk br bb (ctrB nn c) wr from HK.out.congr fun i hi => by
            unfold cbF ctrB
            by_cases e : i < 12
            · rw [if_pos e, if_pos e]
            · rw [if_neg e, if_neg e, if_pos (by omega)])
          have HR := Lib.hid (ky_words HE.out.2.1)
          clear hC hlt hp1 hp2 hq HK
          go_wp2_with (first
            | (refine wpList_load_mid rfl 39 (.tmp 31) rfl bk 0 rfl (rowC 496 (cF W)) _ HR.out Tryz.underlying39 rfl (by rw [rowC_len]; exact info_ci) ?_)
            | (refine wpList_load16a rfl (.tmp 7) rfl bb rfl (rowC 16 (ctrB nn c)).toArray HE.out.2.2.2 ⟨_, rfl⟩ ?_))
          clear HR
          refine (renc_any W (ctrB nn c) wr (ctrB_lt fun i hi => (HN0.out i hi).1)).mono ?_
          rintro e w5 ⟨rfl, hb⟩
          have HB5 := Lib.hid (HE.out.1.trans (hb.mono HE.out.1.size))
          have HR5 := Lib.hid (Blk.below HE.out.2.2.1 hb (Blk.lt HE.out.2.2.1))
          clear hb
          go_wp2_with (first
            | (refine wpList_store16a rfl (.tmp 6) (.tmp 34) rfl br rfl (rowC 16 (encK subN W (ctrB nn c) 14)).toArray zero16 rfl HR5.out ⟨_, rfl⟩ ⟨_, rfl⟩ ?_))
          have h9 : Blk (w5.setCells br 0 (rowC 16 (encK subN W (ctrB nn c) 14)).toArray.toList) br (rowC 16 (encK subN W (ctrB nn c) 14)).toArray 40 := Blk.store16a HR5.out ⟨_, rfl⟩ ⟨_, rfl⟩
          have hO : Own br w5 (w5.setCells br 0 (rowC 16 (encK subN W (ctrB nn c) 14)).toArray.toList) := Own.setCells _ _ _
          have hb2 := HB5.out.trans (hO.below (by have := HLT.out; omega) HB5.out.size)
          refine bodyPost_ret (res16a rfl _ _ br _ rfl h9 ⟨_, rfl⟩) rfl ⟨rfl, ?_⟩
          first | exact hb2 | (rw [hbk] at hb2; exact hb2)
end Go.Proofs.YtkcbckafibjflaaGreatDoor
namespace Go.Proofs.YtkcbckafibjflaaGreatDoor
set_option linter.unusedVariables false
set_option linter.unusedSimpArgs false
open Go.RowKit
set_option maxRecDepth 100000 in
theorem bk_run (W : Nat → Nat) (w : World) : (Instr.build 42 #[(0, .agg (rowC 496 (cF W)).toArray), (1, .agg (rowC 16 (h0F W)).toArray)]).run Tryz.prog w = .ok (.agg (kyC W)) w := by
  have h := run_build (P := Tryz.prog) w 42 #[(0, .agg (rowC 496 (cF W)).toArray), (1, .agg (rowC 16 (h0F W)).toArray)] (kyC W) (by kernel_rfl)
  exact h
theorem exec_loadM {o : Oper} {a : Act} {w : World} {ty : TypeId} {x : Operand} {b f : Nat} {cs : List Value} {d : TypeDesc} (ho : o.op = .load ty x) (hx : a.eval x = .pointer (some ⟨b, f, none⟩)) (hc : w.rangeAt b f cs)
    (hu : Tryz.prog.underlying ty = some d) (hd : d.isRow = true) (hi : (Tryz.prog.info? ty).map (·.size) = some cs.length) : (execOp a.eval o).run Tryz.prog w = .ok (.value (.agg cs.toArray)) w := by
  unfold execOp
  simp only [ho, hx, Instr.loadAt, Instr.sureAddr, Sem.run_bind, Sem.run_pure, Result.andThen_ok, run_loadVar_mid w b f ty cs d hc hu hd hi]
theorem exec_loadC {o : Oper} {a : Act} {w : World} {ty : TypeId} {x : Operand} {b f : Nat} {v : Value} (ho : o.op = .load ty x) (hx : a.eval x = .pointer (some ⟨b, f, none⟩)) (h : (loadVar ty ⟨b, f, none⟩).run Tryz.prog w = .ok v w) : (execOp a.eval o).run Tryz.prog w = .ok (.value v) w := by
  unfold execOp
  simp only [ho, hx, Instr.loadAt, Instr.sureAddr, Sem.run_bind, Sem.run_pure, Result.andThen_ok, h]
theorem Blk.range {w : World} {b : Nat} {C : List Value} {t : TypeId} (h : Blk w b C.toArray t) : w.rangeAt b 0 C := fun j v hv => by
  rw [Nat.zero_add, Blk.cell h j]; simpa using hv
theorem Blk.whole {w : World} {b : Nat} {C D : Array Value} {t : TypeId} (h : Blk w b C t) (hs : D.size = C.size) : Blk (w.setCells b 0 D.toList) b D t := by
  have := Blk.setCells h D.toList (by simpa using hs)
  simpa using this
theorem Blk.thereAll {w : World} {b : Nat} {C : Array Value} {t : TypeId} (h : Blk w b C t) (n : Nat) (hn : n ≤ C.size) : w.there b 0 n := Blk.there h (by simpa using hn)
def zKy : Array Value := (rowC 512 (fun _ => 0)).toArray
def zCi : Array Value := (rowC 496 (fun _ => 0)).toArray
theorem zKy_size : zKy.size = 512 := by unfold zKy; simp [rowC_len]
theorem zCi_size : zCi.size = 496 := by unfold zCi; simp [rowC_len]
theorem zKy_run (w : World) : (zeroValue 42).run Tryz.prog w = .ok (.agg zKy) w := by kernel_rfl
theorem zCi_run (w : World) : (zeroValue 39).run Tryz.prog w = .ok (.agg zCi) w := by kernel_rfl
theorem ky_one (W : Nat → Nat) : (kyC W).all (·.oneCell') = true := by
  unfold kyC kyL
  exact all_oneCell_toArray fun v hv => by
    rcases List.mem_append.1 hv with h | h
    · exact rowC_one _ _ v h
    · exact rowC_one _ _ v h
theorem exec_buildK {o : Oper} {a : Act} {w : World} {C : Array Value} {parts : Array (Nat × Operand)} {ps : Array (Nat × Value)} (ho : o.op = .build 42 parts) (hp : (parts.map fun (i, x) => (i, a.eval x)) = ps) (h : ∀ w, (Instr.build 42 ps).run Tryz.prog w = .ok (.agg C) w) : (execOp a.eval o).run Tryz.prog w = .ok (.value (.agg C)) w := by
  unfold execOp
  simp only [ho, hp, h, Sem.run_bind, Result.andThen_ok]
  rfl
end Go.Proofs.YtkcbckafibjflaaGreatDoor
namespace Go.Proofs.YtkcbckafibjflaaGreatDoor
set_option linter.unusedVariables false
set_option linter.unusedSimpArgs false
open Go.RowKit
set_option maxRecDepth 100000 in
set_option maxHeartbeats 8000000 in
theorem rkey_any (f : Nat → Nat) (oa : Option Addr) (cap : Nat) (w : World) (hb : Bytes w oa 32 f) :
    Calls Tryz.prog 10 #[.slice oa 32 cap] w fun e w' => e = .returned (.agg (kyC (exK f 60))) ∧ Below w.heap.size w w' := by
  obtain ⟨br, hbr⟩ : ∃ y, w.heap.size = y := ⟨_, rfl⟩
  obtain ⟨w1, hw1⟩ : ∃ y, w.alloc (.cells zKy 42) = y := ⟨_, rfl⟩
  have hb1 : Below w.heap.size w w1 := by rw [← hw1]; exact (Below.refl _ _).alloc (Nat.le_refl _) _
  have hk1 : Blk w1 br zKy 42 := by rw [← hw1, ← hbr]; exact Blk.new _ _ _
  have HRD := Lib.hid (rReady_any f oa cap w1 (hb.later hb1))
  have H1 := Lib.hid (show Below w.heap.size w w1 ∧ Blk w1 br zKy 42 from ⟨hb1, hk1⟩)
  have HLT := Lib.hid (show w.heap.size ≤ br by omega)
  obtain ⟨W, hW⟩ : ∃ y, exK f 60 = y := ⟨_, rfl⟩
  obtain ⟨ZK, hZK⟩ : ∃ y, zKy = y := ⟨_, rfl⟩
  obtain ⟨ZC, hZC⟩ : ∃ y, zCi = y := ⟨_, rfl⟩
  obtain ⟨KC, hKC⟩ : ∃ y, kyC W = y := ⟨_, rfl⟩
  obtain ⟨CI, hCI⟩ : ∃ y, (rowC 496 (cF W)).toArray = y := ⟨_, rfl⟩
  obtain ⟨EH, hEH⟩ : ∃ y, (rowC 16 (encK subN W (fun _ => 0) 14)).toArray = y := ⟨_, rfl⟩
  have HKC : Hid (KC.size ≤ ZK.size ∧ (Tryz.prog.info? 42).map (·.size) = some KC.size ∧ KC.all (·.oneCell') = true ∧ KC.size = ZK.size) := Lib.hid (by
    rw [← hKC, ← hZK, kyC_size, zKy_size]; exact ⟨Nat.le_refl _, info_ky, ky_one W, rfl⟩)
  have HCC : Hid (CI.size ≤ ZC.size ∧ (Tryz.prog.info? 39).map (·.size) = some CI.size ∧ CI.all (·.oneCell') = true ∧ CI.size = ZC.size) := Lib.hid (by
    rw [← hCI, ← hZC, zCi_size, List.size_toArray, rowC_len]; exact ⟨Nat.le_refl _, info_ci, all_oneCell_toArray (rowC_one _ _), rfl⟩)
  have HEN : Hid (∀ A, Calls Tryz.prog 19 #[.agg CI, .agg zero16] A fun e w' => e = .returned (.agg EH) ∧ Below A.heap.size A w') := Lib.hid fun A => by
    rw [← hCI, ← hEH]; exact renc_any W (fun _ => 0) A (fun _ _ => by show 0 < 256; decide)
  have HBK : Hid (∀ w, (Instr.build 42 #[(0, .agg CI), (1, .agg EH)]).run Tryz.prog w = .ok (.agg KC) w) := Lib.hid (by rw [← hCI, ← hEH, ← hKC]; exact bk_run W)
  rw [hW, hCI] at HRD
  rw [hW, hKC]
  have hz := zKy_run
  rw [hZK] at hz H1 hw1
  have hzc := zCi_run
  rw [hZC] at hzc
  have HZC := Lib.hid (show ∀ w, (zeroValue 39).run Tryz.prog w = .ok (.agg ZC) w from hzc)
  have HCIR : Hid (∀ A b, Blk A b CI 39 → (loadVar 39 ⟨b, 0, none⟩).run Tryz.prog A = .ok (.agg CI) A) := Lib.hid fun A b hB => by
    have h9 := run_loadVar_mid A b 0 39 (rowC 496 (cF W)) _ (by rw [← hCI] at hB; exact Blk.range hB) Tryz.underlying39 rfl (by rw [rowC_len]; exact info_ci)
    rw [hCI] at h9; exact h9
  clear hZK hZC hKC hCI hEH hzc
  clear hb hb1 hk1 hW
  go_enter Tryz.func10, Tryz.ntmps10
  go_wp2_with fail
  refine HRD.out.mono ?_
  rintro e w2 ⟨rfl, hb2⟩
  obtain ⟨bc, hbc⟩ : ∃ y, w2.heap.size = y := ⟨_, rfl⟩
  obtain ⟨w3, hw3⟩ : ∃ y, w2.alloc (.cells ZC 39) = y := ⟨_, rfl⟩
  have hb3 : Below w2.heap.size w2 w3 := by rw [← hw3]; exact (Below.refl _ _).alloc (Nat.le_refl _) _
  have hk3 : Blk w3 bc ZC 39 := by rw [← hw3, ← hbc]; exact Blk.new _ _ _
  have hr2 := Blk.below H1.out.2 hb2 (Blk.lt H1.out.2)
  have HBC := Lib.hid (show br < bc by have := Blk.lt hr2; omega)
  have HR3 := Lib.hid (Blk.below hr2 hb3 (Blk.lt hr2))
  have hb02 := H1.out.1.trans (hb2.mono H1.out.1.size)
  have HB3 := Lib.hid (hb02.trans (hb3.mono hb02.size))
  have HK3 := Lib.hid hk3
  have hzc := HZC.out
  clear hb2 hb3 hk3 hr2 hb02 HRD
  go_wp2_with (first
    | (refine wpList_store_mid rfl 39 (.tmp 3) (.tmp 5) rfl bc 0 CI rfl rfl (Blk.thereAll HK3.out _ HCC.out.1) HCC.out.2.1 HCC.out.2.2.1 ?_
       obtain ⟨w4, hw4⟩ : ∃ y, w3.setCells bc 0 CI.toList = y := ⟨_, rfl⟩
       have hO : Own bc w3 w4 := (by rw [← hw4]; exact Own.setCells _ _ _)
       have HK4 : Hid (Blk w4 bc CI 39) := Lib.hid (by rw [← hw4]; exact Blk.whole HK3.out HCC.out.2.2.2)
       have HR4 := Lib.hid (hO.blk HR3.out (Nat.ne_of_lt HBC.out))
       have HB4 := Lib.hid (HB3.out.trans (hO.below (by have := HBC.out; have := HLT.out; omega) HB3.out.size))
       rw [hw4]
       clear hw4 hO
       refine Hid.out ?_))
  refine Lib.hid ?_
  clear hz hzc
  have hbd := (Below.refl w4.heap.size w4).drew
  have HW4 := Lib.hid (HB4.out.trans (hbd.mono HB4.out.size))
  have HZR := Lib.hid (Blk.below HR4.out hbd (Blk.lt HR4.out))
  have HCI : Hid (∀ A', Own br w4.drew A' → (loadVar 39 ⟨bc, 0, none⟩).run Tryz.prog A' = .ok (.agg CI) A') := Lib.hid fun A' hA => HCIR.out A' bc (hA.blk (Blk.below HK4.out hbd (Blk.lt HK4.out)) (Nat.ne_of_gt HBC.out))
  clear hbd HB4 HR4 HK4 HB3 HR3 HK3 hw3 hw1
  go_upto_region 2 with fail
  refine wp_region_held_drew (S := (Own br w4.drew)) (by kernel_rfl) ?_ (fun hHeld => ?_)
  · (try dsimp only)
    (first | exact Own.refl _ _ | assumption)
  generalize w4.drew = WR at *
  refine wpAnyH_take (i := 0) (oi := { dst := some 6, op := Go.Op.load 39 (Go.Operand.tmp 3), type := 39, pos := "ref.go:25", after := #[], guard := none }) (v := ?_) rfl (by kernel_rfl) (by kernel_rfl) (by kernel_rfl) (fun _ _ _ h => h) (Or.inl ⟨by rfl, ?_⟩) (by assumption) ?_
  rotate_left
  · intro wS hSw
    (have c9 := HCI.out wS hSw; refine exec_loadC (ty := 39) (v := .agg CI) (b := bc) (f := 0) (x := .tmp 3) ?_ ?_ c9 <;> rfl)
  (try simp only [Act.put, List.setIfInBounds_toArray, List.set_cons_zero, List.set_cons_succ])
  refine wpAnyH_take (i := 1) (oi := { dst := some 7, op := Go.Op.load 39 (Go.Operand.tmp 3), type := 39, pos := "ref.go:25", after := #[], guard := none }) (v := ?_) rfl (by kernel_rfl) (by kernel_rfl) (by kernel_rfl) (fun _ _ _ h => h) (Or.inl ⟨by rfl, ?_⟩) (by assumption) ?_
  rotate_left
  · intro wS hSw
    (have c9 := HCI.out wS hSw; refine exec_loadC (ty := 39) (v := .agg CI) (b := bc) (f := 0) (x := .tmp 3) ?_ ?_ c9 <;> rfl)
  (try simp only [Act.put, List.setIfInBounds_toArray, List.set_cons_zero, List.set_cons_succ])
  refine wpAnyH_take (i := 2) (oi := { dst := some 8, op := Go.Op.build 40 #[], type := 40, pos := "ref.go:25", after := #[], guard := none }) (v := ?_) rfl (by kernel_rfl) (by kernel_rfl) (by kernel_rfl) (fun _ _ _ h => h) (Or.inl ⟨by rfl, ?_⟩) (by assumption) ?_
  rotate_left
  · intro wS hSw
    (refine exec_builda (parts := #[]) (ps := #[]) (C := zero16) ?_ ?_ build_nonea <;> first | rfl | simp)
  (try simp only [Act.put, List.setIfInBounds_toArray, List.set_cons_zero, List.set_cons_succ])
  refine wpAnyH_ready (rs := [3]) (by kernel_rfl) (by simp) ?_
  refine AllReadyH.cons (o := { dst := some 9, op := Go.Op.call { callee := Go.Callee.value (Go.Operand.func 19), args := #[Go.Operand.tmp 7, Go.Operand.tmp 8], argTypes := #[39, 40] }, type := 40, pos := "ref.go:25", after := #[{ on := 1, ground := Go.Ground.data }, { on := 2, ground := Go.Ground.data }], guard := none }) rfl (fun K hK => ?_) AllReadyH.nil
  go_simp
  (refine (HEN.out WR).mono ?_; rintro e V1 ⟨rfl, hb1⟩; have HB1 := Lib.hid hb1; have hkp := Own.of_below (b := br) hb1; have HR1 := Lib.hid (Blk.below HZR.out hb1 (Blk.lt HZR.out)); clear hb1; skip)
  (try go_wp2_with fail)
  refine hK.out _ _ ?_ (fun hHeld => ?_)
  · (try dsimp only)
    (first | exact Own.refl _ _ | assumption)
  clear hK K
  (try simp only [Act.put, List.setIfInBounds_toArray, List.set_cons_zero, List.set_cons_succ])
  refine wpAnyH_take (i := 4) (oi := { dst := some 10, op := Go.Op.build 42 #[(0, Go.Operand.tmp 6), (1, Go.Operand.tmp 9)], type := 42, pos := "ref.go:25", after := #[{ on := 0, ground := Go.Ground.data }, { on := 3, ground := Go.Ground.data }], guard := none }) (v := ?_) rfl (by kernel_rfl) (by kernel_rfl) (by kernel_rfl) (fun _ _ _ h => h) (Or.inl ⟨by rfl, ?_⟩) (by assumption) ?_
  rotate_left
  · intro wS hSw
    (refine exec_buildK (parts := #[(0, .tmp 6), (1, .tmp 9)]) (C := KC) (ps := #[(0, .agg CI), (1, .agg EH)]) ?_ ?_ HBK.out <;> first | rfl | (simp; exact ⟨rfl, rfl⟩))
  (try simp only [Act.put, List.setIfInBounds_toArray, List.set_cons_zero, List.set_cons_succ])
  refine wpAnyH_ready (rs := [5]) (by kernel_rfl) (by simp) ?_
  refine AllReadyH.cons (o := { dst := none, op := Go.Op.store 42 (Go.Operand.tmp 2) (Go.Operand.tmp 10), type := 0, pos := "ref.go:25", after := #[{ on := 4, ground := Go.Ground.data }, { on := 3, ground := Go.Ground.chain }, { on := 0, ground := Go.Ground.phase }, { on := 1, ground := Go.Ground.phase }, { on := 2, ground := Go.Ground.phase }, { on := 3, ground := Go.Ground.phase }, { on := 4, ground := Go.Ground.phase }], guard := none }) rfl (fun K hK => ?_) AllReadyH.nil
  (refine step_storeM (by rfl) 42 (.tmp 2) (.tmp 10) rfl br 0 KC rfl rfl (Blk.thereAll HR1.out _ HKC.out.1) HKC.out.2.1 HKC.out.2.2.1 ?_; obtain ⟨V2, hV2⟩ : ∃ q, V1.setCells br 0 KC.toList = q := ⟨_, rfl⟩; have HV2 : Hid (Blk V2 br KC 42 ∧ Own br V1 V2) := Lib.hid (by rw [← hV2]; exact ⟨Blk.whole HR1.out HKC.out.2.2.2, Own.setCells _ _ _⟩); rw [hV2]; have hkp2 := hkp.trans HV2.out.2; clear hV2; skip)
  refine hK.out _ _ ?_ (fun hHeld => ?_)
  · (try dsimp only)
    (first | exact Own.refl _ _ | assumption)
  clear hK K
  (try simp only [Act.put, List.setIfInBounds_toArray, List.set_cons_zero, List.set_cons_succ])
  refine wpAnyH_done (by kernel_rfl) ?_ _
  have HOF := Lib.hid hkp2
  clear hkp hkp2 HCI HBK
  go_wp2_with fail
  refine bodyPost_ret (results_cell_row Tryz.results10 _ _ br 42 KC (0, 0) _ rfl HV2.out.1 Tryz.underlying42 rfl HKC.out.2.1) rfl ⟨rfl, ?_⟩
  have hb9 := HW4.out.trans (HOF.out.below HLT.out HW4.out.size)
  first | exact hb9 | (rw [hbr] at hb9; exact hb9)
end Go.Proofs.YtkcbckafibjflaaGreatDoor
namespace Go.Proofs.YtkcbckafibjflaaGreatDoor
set_option linter.unusedVariables false
set_option linter.unusedSimpArgs false
open Go.RowKit
/-- What a tag comes back as. -/
def TgP (w : World) (T3 : Array Value) (e : Ending) (w' : World) : Prop := ∃ b, e = .returned (.slice (some ⟨b, 0, none⟩) 16 16) ∧ Blk w' b T3 40 ∧ Below w.heap.size w w'
set_option maxRecDepth 100000 in
set_option maxHeartbeats 8000000 in
theorem rtag_any (W nn c a : Nat → Nat) (cn an : Nat) (on oc oa : Option Addr) (capn capc capa : Nat) (w : World) (hn : Bytes w on 12 nn) (hc : Bytes w oc cn c) (ha : Bytes w oa an a) (h5 : cn < 1000000) (h6 : an < 1000000) :
    Calls Tryz.prog 21 #[.agg (kyC W), .slice on 12 capn, .slice oc cn capc, .slice oa an capa] w (TgP w (rowC 16 (tgF W nn a an c cn)).toArray) := by
  obtain ⟨bk, hbk⟩ : ∃ y, w.heap.size = y := ⟨_, rfl⟩
  obtain ⟨w1, hw1⟩ : ∃ y, w.alloc (.cells (kyC W) 42) = y := ⟨_, rfl⟩
  have hb1 : Below w.heap.size w w1 := by rw [← hw1]; exact (Below.refl _ _).alloc (Nat.le_refl _) _
  have hk1 : Blk w1 bk (kyC W) 42 := by rw [← hw1, ← hbk]; exact Blk.new _ _ _
  have hbd := (Below.refl w1.heap.size w1).drew
  have hb01 := hb1.trans (hbd.mono hb1.size)
  have hnl : ∀ i, i < 12 → nn i < 256 := fun i hi => (hn i hi).1
  obtain ⟨KC, hKC⟩ : ∃ y, kyC W = y := ⟨_, rfl⟩
  obtain ⟨EH, hEH⟩ : ∃ y, (rowC 16 (h0F W)).toArray = y := ⟨_, rfl⟩
  obtain ⟨T1, hT1⟩ : ∃ y, (rowC 16 (hashF (h0F W) a an c cn)).toArray = y := ⟨_, rfl⟩
  obtain ⟨T2, hT2⟩ : ∃ y, (rowC 16 (cW W nn 1)).toArray = y := ⟨_, rfl⟩
  obtain ⟨T3, hT3⟩ : ∃ y, (rowC 16 (tgF W nn a an c cn)).toArray = y := ⟨_, rfl⟩
  have HHA : Hid (∀ A, Below w1.drew.heap.size w1.drew A → Calls Tryz.prog 41 #[.agg EH, .slice oa an capa, .slice oc cn capc] A fun e w' => e = .returned (.agg T1) ∧ Below A.heap.size A w') := Lib.hid fun A hA => by
    rw [← hEH, ← hT1]
    exact rhash_any (h0F W) a c oa oc an cn capa capc A (h0F_lt W) ((ha.later hb01).later hA) ((hc.later hb01).later hA) h6 h5
  have HCO : Hid (∀ A, Below w1.drew.heap.size w1.drew A → Calls Tryz.prog 39 #[.agg KC, .slice on 12 capn, .int .i64 1] A fun e w' => e = .returned (.agg T2) ∧ Below A.heap.size A w') := Lib.hid fun A hA => by
    rw [← hKC, ← hT2]
    exact rcounter_any W nn on capn 1 A ((hn.later hb01).later hA) (by decide)
  have HAD : Hid (∀ A, Calls Tryz.prog 40 #[.agg T1, .agg T2] A fun e w' => e = .returned (.agg T3) ∧ Below A.heap.size A w') := Lib.hid fun A => by
    rw [← hT1, ← hT2, ← hT3]
    exact radd_any _ _ A (fun i _ => mulF_lt _ _ _) (cW_lt hnl)
  have HT3 : Hid (∃ f, T3 = (rowC 16 f).toArray) := Lib.hid ⟨_, hT3.symm⟩
  have HLH : Hid (∀ A, Below w1.drew.heap.size w1.drew A → (loadVar 40 ⟨bk, 496, none⟩).run Tryz.prog A = .ok (.agg EH) A) := Lib.hid fun A hA => by
    have h9 := run_loadVar_mid A bk 496 40 (rowC 16 (h0F W)) _ (ky_h (Blk.below (Blk.below hk1 hbd (Blk.lt hk1)) hA (Blk.lt (Blk.below hk1 hbd (Blk.lt hk1))))) Tryz.underlying40 rfl (by rw [rowC_len]; exact size16a)
    rw [hEH] at h9; exact h9
  have HLK : Hid (∀ A, Below w1.drew.heap.size w1.drew A → (loadVar 42 ⟨bk, 0, none⟩).run Tryz.prog A = .ok (.agg KC) A) := Lib.hid fun A hA => by
    have h8 := Blk.below (Blk.below hk1 hbd (Blk.lt hk1)) hA (Blk.lt (Blk.below hk1 hbd (Blk.lt hk1)))
    have h9 := run_loadVar_mid A bk 0 42 (kyL W) _ (Blk.range (C := kyL W) h8) Tryz.underlying42 rfl (by rw [show (kyL W).length = 512 by unfold kyL; simp [rowC_len]]; exact info_ky)
    have e : (kyL W).toArray = KC := hKC
    rw [e] at h9; exact h9
  have HW1 := Lib.hid hb01
  have hz := zero16a_run
  rw [hKC, hT3]
  rw [hKC] at hw1
  have hL1 : w1.drew.heap.size = w1.drew.heap.size := rfl
  clear hn hc ha h5 h6 hnl hb1 hk1 hbd hb01 hKC hEH hT1 hT2 hT3 hL1
  unfold TgP
  go_enter Tryz.func21, Tryz.ntmps21
  go_wp2_with fail
  go_upto_region 1 with fail
  refine wp_region_held_drew (S := (Below w1.drew.heap.size w1.drew)) (by kernel_rfl) ?_ (fun hHeld => ?_)
  · (try dsimp only)
    (first | exact Below.refl _ _ | assumption)
  generalize w1.drew = WR at *
  refine wpAnyH_take (i := 0) (oi := { dst := some 10, op := Go.Op.fieldAddr 42 (Go.Operand.tmp 4) 1, type := 0, pos := "ref.go:55", after := #[], guard := none }) (v := ?_) rfl (by kernel_rfl) (by kernel_rfl) (by kernel_rfl) (fun _ _ _ h => h) (Or.inl ⟨by rfl, ?_⟩) (by assumption) ?_
  rotate_left
  · intro wS hSw
    (try dsimp only at hSw)
    go_simp
    (try with_reducible rfl)
  (try simp only [Act.put, List.setIfInBounds_toArray, List.set_cons_zero, List.set_cons_succ])
  refine wpAnyH_take (i := 1) (oi := { dst := some 11, op := Go.Op.load 40 (Go.Operand.tmp 10), type := 40, pos := "ref.go:55", after := #[{ on := 0, ground := Go.Ground.data }], guard := none }) (v := ?_) rfl (by kernel_rfl) (by kernel_rfl) (by kernel_rfl) (fun _ _ _ h => h) (Or.inl ⟨by rfl, ?_⟩) (by assumption) ?_
  rotate_left
  · intro wS hSw
    (have c9 := HLH.out wS hSw; refine exec_loadC (ty := 40) (v := .agg EH) (b := bk) (f := 496) (x := .tmp 10) ?_ ?_ c9 <;> rfl)
  (try simp only [Act.put, List.setIfInBounds_toArray, List.set_cons_zero, List.set_cons_succ])
  refine wpAnyH_take (i := 2) (oi := { dst := some 12, op := Go.Op.move (Go.Operand.tmp 3), type := 22, pos := "ref.go:55", after := #[], guard := none }) (v := ?_) rfl (by kernel_rfl) (by kernel_rfl) (by kernel_rfl) (fun _ _ _ h => h) (Or.inl ⟨by rfl, ?_⟩) (by assumption) ?_
  rotate_left
  · intro wS hSw
    (try dsimp only at hSw)
    go_simp
    (try with_reducible rfl)
  (try simp only [Act.put, List.setIfInBounds_toArray, List.set_cons_zero, List.set_cons_succ])
  refine wpAnyH_take (i := 3) (oi := { dst := some 13, op := Go.Op.move (Go.Operand.tmp 2), type := 22, pos := "ref.go:55", after := #[], guard := none }) (v := ?_) rfl (by kernel_rfl) (by kernel_rfl) (by kernel_rfl) (fun _ _ _ h => h) (Or.inl ⟨by rfl, ?_⟩) (by assumption) ?_
  rotate_left
  · intro wS hSw
    (try dsimp only at hSw)
    go_simp
    (try with_reducible rfl)
  (try simp only [Act.put, List.setIfInBounds_toArray, List.set_cons_zero, List.set_cons_succ])
  refine wpAnyH_take (i := 5) (oi := { dst := some 15, op := Go.Op.load 42 (Go.Operand.tmp 4), type := 42, pos := "ref.go:55", after := #[], guard := none }) (v := ?_) rfl (by kernel_rfl) (by kernel_rfl) (by kernel_rfl) (fun _ _ _ h => h) (Or.inl ⟨by rfl, ?_⟩) (by assumption) ?_
  rotate_left
  · intro wS hSw
    (have c9 := HLK.out wS hSw; refine exec_loadC (ty := 42) (v := .agg KC) (b := bk) (f := 0) (x := .tmp 4) ?_ ?_ c9 <;> rfl)
  (try simp only [Act.put, List.setIfInBounds_toArray, List.set_cons_zero, List.set_cons_succ])
  refine wpAnyH_take (i := 6) (oi := { dst := some 16, op := Go.Op.move (Go.Operand.tmp 1), type := 22, pos := "ref.go:55", after := #[], guard := none }) (v := ?_) rfl (by kernel_rfl) (by kernel_rfl) (by kernel_rfl) (fun _ _ _ h => h) (Or.inl ⟨by rfl, ?_⟩) (by assumption) ?_
  rotate_left
  · intro wS hSw
    (try dsimp only at hSw)
    go_simp
    (try with_reducible rfl)
  (try simp only [Act.put, List.setIfInBounds_toArray, List.set_cons_zero, List.set_cons_succ])
  refine wpAnyH_ready (rs := [4, 9]) (by kernel_rfl) (by simp) ?_
  refine AllReadyH.cons (o := { dst := some 14, op := Go.Op.call { callee := Go.Callee.value (Go.Operand.func 41), args := #[Go.Operand.tmp 11, Go.Operand.tmp 12, Go.Operand.tmp 13], argTypes := #[40, 22, 22] }, type := 40, pos := "ref.go:55", after := #[{ on := 1, ground := Go.Ground.data }, { on := 2, ground := Go.Ground.data }, { on := 3, ground := Go.Ground.data }], guard := none }) rfl (fun K hK => ?_) ?_
  · skip
    go_simp
    (refine (HHA.out WR (Below.refl WR.heap.size WR)).mono ?_; rintro e V1 ⟨rfl, hq⟩; have hb1 := Below.trans (Below.refl WR.heap.size WR) (hq.mono (Below.size (Below.refl WR.heap.size WR))); clear hq; skip)
    (try go_wp2_with fail)
    refine hK.out _ _ ?_ (fun hHeld => ?_)
    · (try dsimp only)
      (first | exact Below.refl _ _ | assumption)
    clear hK K
    (try simp only [Act.put, List.setIfInBounds_toArray, List.set_cons_zero, List.set_cons_succ])
    refine wpAnyH_ready (rs := [7, 9]) (by kernel_rfl) (by simp) ?_
    refine AllReadyH.cons (o := { dst := some 17, op := Go.Op.call { callee := Go.Callee.value (Go.Operand.func 39), args := #[Go.Operand.tmp 15, Go.Operand.tmp 16, Go.Operand.const (Go.Value.int Go.IntKind.i64 1)], argTypes := #[42, 22, 3] }, type := 40, pos := "ref.go:55", after := #[{ on := 5, ground := Go.Ground.data }, { on := 6, ground := Go.Ground.data }, { on := 4, ground := Go.Ground.chain }], guard := none }) rfl (fun K hK => ?_) ?_
    · skip
      go_simp
      (refine (HCO.out V1 hb1).mono ?_; rintro e V2 ⟨rfl, hq⟩; have hb2 := Below.trans hb1 (hq.mono (Below.size hb1)); clear hq; skip)
      (try go_wp2_with fail)
      refine hK.out _ _ ?_ (fun hHeld => ?_)
      · (try dsimp only)
        (first | exact Below.refl _ _ | assumption)
      clear hK K
      (try simp only [Act.put, List.setIfInBounds_toArray, List.set_cons_zero, List.set_cons_succ])
      refine wpAnyH_ready (rs := [8, 9]) (by kernel_rfl) (by simp) ?_
      refine AllReadyH.cons (o := { dst := some 18, op := Go.Op.call { callee := Go.Callee.value (Go.Operand.func 40), args := #[Go.Operand.tmp 14, Go.Operand.tmp 17], argTypes := #[40, 40] }, type := 40, pos := "ref.go:55", after := #[{ on := 4, ground := Go.Ground.data }, { on := 7, ground := Go.Ground.data }, { on := 7, ground := Go.Ground.chain }], guard := none }) rfl (fun K hK => ?_) ?_
      · skip
        go_simp
        (refine (HAD.out V2).mono ?_; rintro e V3 ⟨rfl, hq⟩; have hb3 := Below.trans hb2 (hq.mono (Below.size hb2)); clear hq; skip)
        (try go_wp2_with fail)
        refine hK.out _ _ ?_ (fun hHeld => ?_)
        · (try dsimp only)
          (first | exact Below.refl _ _ | assumption)
        clear hK K
        (try simp only [Act.put, List.setIfInBounds_toArray, List.set_cons_zero, List.set_cons_succ])
        refine wpAnyH_ready (rs := [9]) (by kernel_rfl) (by simp) ?_
        refine AllReadyH.cons (o := { dst := some 9, op := Go.Op.alloc 40, type := 0, pos := "ref.go:55", after := #[], guard := none }) rfl (fun K hK => ?_) AllReadyH.nil
        go_simp
        (obtain ⟨V4, hw⟩ : ∃ q, V3.alloc (.cells zero16 40) = q := ⟨_, rfl⟩; rw [hw]; have hq : Below V3.heap.size V3 V4 := (by rw [← hw]; exact (Below.refl _ _).alloc (Nat.le_refl _) _); have hz4 : Blk V4 V3.heap.size zero16 40 := (by rw [← hw]; exact Blk.new _ _ _); have hb4 := Below.trans hb3 (hq.mono (Below.size hb3)); have HGE := Lib.hid (Below.size hb3); clear hq hw; skip)
        (try go_wp2_with fail)
        refine hK.out _ _ ?_ (fun hHeld => ?_)
        · (try dsimp only)
          (first | exact Below.refl _ _ | assumption)
        clear hK K
        (try simp only [Act.put, List.setIfInBounds_toArray, List.set_cons_zero, List.set_cons_succ])
        refine wpAnyH_ready (rs := [10]) (by kernel_rfl) (by simp) ?_
        refine AllReadyH.cons (o := { dst := none, op := Go.Op.store 40 (Go.Operand.tmp 9) (Go.Operand.tmp 18), type := 0, pos := "ref.go:55", after := #[{ on := 9, ground := Go.Ground.data }, { on := 8, ground := Go.Ground.data }, { on := 8, ground := Go.Ground.chain }, { on := 0, ground := Go.Ground.phase }, { on := 1, ground := Go.Ground.phase }, { on := 2, ground := Go.Ground.phase }, { on := 3, ground := Go.Ground.phase }, { on := 4, ground := Go.Ground.phase }, { on := 5, ground := Go.Ground.phase }, { on := 6, ground := Go.Ground.phase }, { on := 7, ground := Go.Ground.phase }, { on := 8, ground := Go.Ground.phase }, { on := 9, ground := Go.Ground.phase }], guard := none }) rfl (fun K hK => ?_) AllReadyH.nil
        (refine step_store16a rfl (.tmp 9) (.tmp 18) rfl (V3.heap.size) rfl T3 zero16 rfl hz4 HT3.out ⟨_, rfl⟩ ?_; obtain ⟨V5, hw⟩ : ∃ q, V4.setCells (V3.heap.size) 0 T3.toList = q := ⟨_, rfl⟩; rw [hw]; have hO : Own (V3.heap.size) V4 V5 := (by rw [← hw]; exact Own.setCells _ _ _); have HF : Hid (Blk V5 (V3.heap.size) T3 40) := Lib.hid (by rw [← hw]; exact Blk.store16a hz4 HT3.out ⟨_, rfl⟩); have hb5 := Below.trans hb4 (hO.below HGE.out (Below.size hb4)); have HB9 := Lib.hid hb5; clear hO hw; skip)
        refine hK.out _ _ ?_ (fun hHeld => ?_)
        · (try dsimp only)
          (first | exact Below.refl _ _ | assumption)
        clear hK K
        (try simp only [Act.put, List.setIfInBounds_toArray, List.set_cons_zero, List.set_cons_succ])
        refine wpAnyH_done (by kernel_rfl) ?_ _
        clear HLH HLK
        go_wp2_with fail
        go_ret
        exact ⟨_, rfl, HF.out, HW1.out.trans (HB9.out.mono HW1.out.size)⟩
      refine AllReadyH.cons (o := { dst := some 9, op := Go.Op.alloc 40, type := 0, pos := "ref.go:55", after := #[], guard := none }) rfl (fun K hK => ?_) AllReadyH.nil
      go_simp
      (obtain ⟨V6, hw⟩ : ∃ q, V2.alloc (.cells zero16 40) = q := ⟨_, rfl⟩; rw [hw]; have hq : Below V2.heap.size V2 V6 := (by rw [← hw]; exact (Below.refl _ _).alloc (Nat.le_refl _) _); have hz6 : Blk V6 V2.heap.size zero16 40 := (by rw [← hw]; exact Blk.new _ _ _); have hb6 := Below.trans hb2 (hq.mono (Below.size hb2)); have HGE := Lib.hid (Below.size hb2); clear hq hw; skip)
      (try go_wp2_with fail)
      refine hK.out _ _ ?_ (fun hHeld => ?_)
      · (try dsimp only)
        (first | exact Below.refl _ _ | assumption)
      clear hK K
      (try simp only [Act.put, List.setIfInBounds_toArray, List.set_cons_zero, List.set_cons_succ])
      refine wpAnyH_ready (rs := [8]) (by kernel_rfl) (by simp) ?_
      refine AllReadyH.cons (o := { dst := some 18, op := Go.Op.call { callee := Go.Callee.value (Go.Operand.func 40), args := #[Go.Operand.tmp 14, Go.Operand.tmp 17], argTypes := #[40, 40] }, type := 40, pos := "ref.go:55", after := #[{ on := 4, ground := Go.Ground.data }, { on := 7, ground := Go.Ground.data }, { on := 7, ground := Go.Ground.chain }], guard := none }) rfl (fun K hK => ?_) AllReadyH.nil
      go_simp
      (refine (HAD.out V6).mono ?_; rintro e V7 ⟨rfl, hq⟩; have hb7 := Below.trans hb6 (hq.mono (Below.size hb6)); have hz7 := Blk.below hz6 hq (Blk.lt hz6); clear hq; skip)
      (try go_wp2_with fail)
      refine hK.out _ _ ?_ (fun hHeld => ?_)
      · (try dsimp only)
        (first | exact Below.refl _ _ | assumption)
      clear hK K
      (try simp only [Act.put, List.setIfInBounds_toArray, List.set_cons_zero, List.set_cons_succ])
      refine wpAnyH_ready (rs := [10]) (by kernel_rfl) (by simp) ?_
      refine AllReadyH.cons (o := { dst := none, op := Go.Op.store 40 (Go.Operand.tmp 9) (Go.Operand.tmp 18), type := 0, pos := "ref.go:55", after := #[{ on := 9, ground := Go.Ground.data }, { on := 8, ground := Go.Ground.data }, { on := 8, ground := Go.Ground.chain }, { on := 0, ground := Go.Ground.phase }, { on := 1, ground := Go.Ground.phase }, { on := 2, ground := Go.Ground.phase }, { on := 3, ground := Go.Ground.phase }, { on := 4, ground := Go.Ground.phase }, { on := 5, ground := Go.Ground.phase }, { on := 6, ground := Go.Ground.phase }, { on := 7, ground := Go.Ground.phase }, { on := 8, ground := Go.Ground.phase }, { on := 9, ground := Go.Ground.phase }], guard := none }) rfl (fun K hK => ?_) AllReadyH.nil
      (refine step_store16a rfl (.tmp 9) (.tmp 18) rfl (V2.heap.size) rfl T3 zero16 rfl hz7 HT3.out ⟨_, rfl⟩ ?_; obtain ⟨V8, hw⟩ : ∃ q, V7.setCells (V2.heap.size) 0 T3.toList = q := ⟨_, rfl⟩; rw [hw]; have hO : Own (V2.heap.size) V7 V8 := (by rw [← hw]; exact Own.setCells _ _ _); have HF : Hid (Blk V8 (V2.heap.size) T3 40) := Lib.hid (by rw [← hw]; exact Blk.store16a hz7 HT3.out ⟨_, rfl⟩); have hb8 := Below.trans hb7 (hO.below HGE.out (Below.size hb7)); have HB9 := Lib.hid hb8; clear hO hw; skip)
      refine hK.out _ _ ?_ (fun hHeld => ?_)
      · (try dsimp only)
        (first | exact Below.refl _ _ | assumption)
      clear hK K
      (try simp only [Act.put, List.setIfInBounds_toArray, List.set_cons_zero, List.set_cons_succ])
      refine wpAnyH_done (by kernel_rfl) ?_ _
      clear HLH HLK
      go_wp2_with fail
      go_ret
      exact ⟨_, rfl, HF.out, HW1.out.trans (HB9.out.mono HW1.out.size)⟩
    refine AllReadyH.cons (o := { dst := some 9, op := Go.Op.alloc 40, type := 0, pos := "ref.go:55", after := #[], guard := none }) rfl (fun K hK => ?_) AllReadyH.nil
    go_simp
    (obtain ⟨V9, hw⟩ : ∃ q, V1.alloc (.cells zero16 40) = q := ⟨_, rfl⟩; rw [hw]; have hq : Below V1.heap.size V1 V9 := (by rw [← hw]; exact (Below.refl _ _).alloc (Nat.le_refl _) _); have hz9 : Blk V9 V1.heap.size zero16 40 := (by rw [← hw]; exact Blk.new _ _ _); have hb9 := Below.trans hb1 (hq.mono (Below.size hb1)); have HGE := Lib.hid (Below.size hb1); clear hq hw; skip)
    (try go_wp2_with fail)
    refine hK.out _ _ ?_ (fun hHeld => ?_)
    · (try dsimp only)
      (first | exact Below.refl _ _ | assumption)
    clear hK K
    (try simp only [Act.put, List.setIfInBounds_toArray, List.set_cons_zero, List.set_cons_succ])
    refine wpAnyH_ready (rs := [7]) (by kernel_rfl) (by simp) ?_
    refine AllReadyH.cons (o := { dst := some 17, op := Go.Op.call { callee := Go.Callee.value (Go.Operand.func 39), args := #[Go.Operand.tmp 15, Go.Operand.tmp 16, Go.Operand.const (Go.Value.int Go.IntKind.i64 1)], argTypes := #[42, 22, 3] }, type := 40, pos := "ref.go:55", after := #[{ on := 5, ground := Go.Ground.data }, { on := 6, ground := Go.Ground.data }, { on := 4, ground := Go.Ground.chain }], guard := none }) rfl (fun K hK => ?_) AllReadyH.nil
    go_simp
    (refine (HCO.out V9 hb9).mono ?_; rintro e V10 ⟨rfl, hq⟩; have hb10 := Below.trans hb9 (hq.mono (Below.size hb9)); have hz10 := Blk.below hz9 hq (Blk.lt hz9); clear hq; skip)
    (try go_wp2_with fail)
    refine hK.out _ _ ?_ (fun hHeld => ?_)
    · (try dsimp only)
      (first | exact Below.refl _ _ | assumption)
    clear hK K
    (try simp only [Act.put, List.setIfInBounds_toArray, List.set_cons_zero, List.set_cons_succ])
    refine wpAnyH_ready (rs := [8]) (by kernel_rfl) (by simp) ?_
    refine AllReadyH.cons (o := { dst := some 18, op := Go.Op.call { callee := Go.Callee.value (Go.Operand.func 40), args := #[Go.Operand.tmp 14, Go.Operand.tmp 17], argTypes := #[40, 40] }, type := 40, pos := "ref.go:55", after := #[{ on := 4, ground := Go.Ground.data }, { on := 7, ground := Go.Ground.data }, { on := 7, ground := Go.Ground.chain }], guard := none }) rfl (fun K hK => ?_) AllReadyH.nil
    go_simp
    (refine (HAD.out V10).mono ?_; rintro e V11 ⟨rfl, hq⟩; have hb11 := Below.trans hb10 (hq.mono (Below.size hb10)); have hz11 := Blk.below hz10 hq (Blk.lt hz10); clear hq; skip)
    (try go_wp2_with fail)
    refine hK.out _ _ ?_ (fun hHeld => ?_)
    · (try dsimp only)
      (first | exact Below.refl _ _ | assumption)
    clear hK K
    (try simp only [Act.put, List.setIfInBounds_toArray, List.set_cons_zero, List.set_cons_succ])
    refine wpAnyH_ready (rs := [10]) (by kernel_rfl) (by simp) ?_
    refine AllReadyH.cons (o := { dst := none, op := Go.Op.store 40 (Go.Operand.tmp 9) (Go.Operand.tmp 18), type := 0, pos := "ref.go:55", after := #[{ on := 9, ground := Go.Ground.data }, { on := 8, ground := Go.Ground.data }, { on := 8, ground := Go.Ground.chain }, { on := 0, ground := Go.Ground.phase }, { on := 1, ground := Go.Ground.phase }, { on := 2, ground := Go.Ground.phase }, { on := 3, ground := Go.Ground.phase }, { on := 4, ground := Go.Ground.phase }, { on := 5, ground := Go.Ground.phase }, { on := 6, ground := Go.Ground.phase }, { on := 7, ground := Go.Ground.phase }, { on := 8, ground := Go.Ground.phase }, { on := 9, ground := Go.Ground.phase }], guard := none }) rfl (fun K hK => ?_) AllReadyH.nil
    (refine step_store16a rfl (.tmp 9) (.tmp 18) rfl (V1.heap.size) rfl T3 zero16 rfl hz11 HT3.out ⟨_, rfl⟩ ?_; obtain ⟨V12, hw⟩ : ∃ q, V11.setCells (V1.heap.size) 0 T3.toList = q := ⟨_, rfl⟩; rw [hw]; have hO : Own (V1.heap.size) V11 V12 := (by rw [← hw]; exact Own.setCells _ _ _); have HF : Hid (Blk V12 (V1.heap.size) T3 40) := Lib.hid (by rw [← hw]; exact Blk.store16a hz11 HT3.out ⟨_, rfl⟩); have hb12 := Below.trans hb11 (hO.below HGE.out (Below.size hb11)); have HB9 := Lib.hid hb12; clear hO hw; skip)
    refine hK.out _ _ ?_ (fun hHeld => ?_)
    · (try dsimp only)
      (first | exact Below.refl _ _ | assumption)
    clear hK K
    (try simp only [Act.put, List.setIfInBounds_toArray, List.set_cons_zero, List.set_cons_succ])
    refine wpAnyH_done (by kernel_rfl) ?_ _
    clear HLH HLK
    go_wp2_with fail
    go_ret
    exact ⟨_, rfl, HF.out, HW1.out.trans (HB9.out.mono HW1.out.size)⟩
  refine AllReadyH.cons (o := { dst := some 9, op := Go.Op.alloc 40, type := 0, pos := "ref.go:55", after := #[], guard := none }) rfl (fun K hK => ?_) AllReadyH.nil
  go_simp
  (obtain ⟨V13, hw⟩ : ∃ q, WR.alloc (.cells zero16 40) = q := ⟨_, rfl⟩; rw [hw]; have hq : Below WR.heap.size WR V13 := (by rw [← hw]; exact (Below.refl _ _).alloc (Nat.le_refl _) _); have hz13 : Blk V13 WR.heap.size zero16 40 := (by rw [← hw]; exact Blk.new _ _ _); have hb13 := Below.trans (Below.refl WR.heap.size WR) (hq.mono (Below.size (Below.refl WR.heap.size WR))); have HGE := Lib.hid (Below.size (Below.refl WR.heap.size WR)); clear hq hw; skip)
  (try go_wp2_with fail)
  refine hK.out _ _ ?_ (fun hHeld => ?_)
  · (try dsimp only)
    (first | exact Below.refl _ _ | assumption)
  clear hK K
  (try simp only [Act.put, List.setIfInBounds_toArray, List.set_cons_zero, List.set_cons_succ])
  refine wpAnyH_ready (rs := [4]) (by kernel_rfl) (by simp) ?_
  refine AllReadyH.cons (o := { dst := some 14, op := Go.Op.call { callee := Go.Callee.value (Go.Operand.func 41), args := #[Go.Operand.tmp 11, Go.Operand.tmp 12, Go.Operand.tmp 13], argTypes := #[40, 22, 22] }, type := 40, pos := "ref.go:55", after := #[{ on := 1, ground := Go.Ground.data }, { on := 2, ground := Go.Ground.data }, { on := 3, ground := Go.Ground.data }], guard := none }) rfl (fun K hK => ?_) AllReadyH.nil
  go_simp
  (refine (HHA.out V13 hb13).mono ?_; rintro e V14 ⟨rfl, hq⟩; have hb14 := Below.trans hb13 (hq.mono (Below.size hb13)); have hz14 := Blk.below hz13 hq (Blk.lt hz13); clear hq; skip)
  (try go_wp2_with fail)
  refine hK.out _ _ ?_ (fun hHeld => ?_)
  · (try dsimp only)
    (first | exact Below.refl _ _ | assumption)
  clear hK K
  (try simp only [Act.put, List.setIfInBounds_toArray, List.set_cons_zero, List.set_cons_succ])
  refine wpAnyH_ready (rs := [7]) (by kernel_rfl) (by simp) ?_
  refine AllReadyH.cons (o := { dst := some 17, op := Go.Op.call { callee := Go.Callee.value (Go.Operand.func 39), args := #[Go.Operand.tmp 15, Go.Operand.tmp 16, Go.Operand.const (Go.Value.int Go.IntKind.i64 1)], argTypes := #[42, 22, 3] }, type := 40, pos := "ref.go:55", after := #[{ on := 5, ground := Go.Ground.data }, { on := 6, ground := Go.Ground.data }, { on := 4, ground := Go.Ground.chain }], guard := none }) rfl (fun K hK => ?_) AllReadyH.nil
  go_simp
  (refine (HCO.out V14 hb14).mono ?_; rintro e V15 ⟨rfl, hq⟩; have hb15 := Below.trans hb14 (hq.mono (Below.size hb14)); have hz15 := Blk.below hz14 hq (Blk.lt hz14); clear hq; skip)
  (try go_wp2_with fail)
  refine hK.out _ _ ?_ (fun hHeld => ?_)
  · (try dsimp only)
    (first | exact Below.refl _ _ | assumption)
  clear hK K
  (try simp only [Act.put, List.setIfInBounds_toArray, List.set_cons_zero, List.set_cons_succ])
  refine wpAnyH_ready (rs := [8]) (by kernel_rfl) (by simp) ?_
  refine AllReadyH.cons (o := { dst := some 18, op := Go.Op.call { callee := Go.Callee.value (Go.Operand.func 40), args := #[Go.Operand.tmp 14, Go.Operand.tmp 17], argTypes := #[40, 40] }, type := 40, pos := "ref.go:55", after := #[{ on := 4, ground := Go.Ground.data }, { on := 7, ground := Go.Ground.data }, { on := 7, ground := Go.Ground.chain }], guard := none }) rfl (fun K hK => ?_) AllReadyH.nil
  go_simp
  (refine (HAD.out V15).mono ?_; rintro e V16 ⟨rfl, hq⟩; have hb16 := Below.trans hb15 (hq.mono (Below.size hb15)); have hz16 := Blk.below hz15 hq (Blk.lt hz15); clear hq; skip)
  (try go_wp2_with fail)
  refine hK.out _ _ ?_ (fun hHeld => ?_)
  · (try dsimp only)
    (first | exact Below.refl _ _ | assumption)
  clear hK K
  (try simp only [Act.put, List.setIfInBounds_toArray, List.set_cons_zero, List.set_cons_succ])
  refine wpAnyH_ready (rs := [10]) (by kernel_rfl) (by simp) ?_
  refine AllReadyH.cons (o := { dst := none, op := Go.Op.store 40 (Go.Operand.tmp 9) (Go.Operand.tmp 18), type := 0, pos := "ref.go:55", after := #[{ on := 9, ground := Go.Ground.data }, { on := 8, ground := Go.Ground.data }, { on := 8, ground := Go.Ground.chain }, { on := 0, ground := Go.Ground.phase }, { on := 1, ground := Go.Ground.phase }, { on := 2, ground := Go.Ground.phase }, { on := 3, ground := Go.Ground.phase }, { on := 4, ground := Go.Ground.phase }, { on := 5, ground := Go.Ground.phase }, { on := 6, ground := Go.Ground.phase }, { on := 7, ground := Go.Ground.phase }, { on := 8, ground := Go.Ground.phase }, { on := 9, ground := Go.Ground.phase }], guard := none }) rfl (fun K hK => ?_) AllReadyH.nil
  (refine step_store16a rfl (.tmp 9) (.tmp 18) rfl (WR.heap.size) rfl T3 zero16 rfl hz16 HT3.out ⟨_, rfl⟩ ?_; obtain ⟨V17, hw⟩ : ∃ q, V16.setCells (WR.heap.size) 0 T3.toList = q := ⟨_, rfl⟩; rw [hw]; have hO : Own (WR.heap.size) V16 V17 := (by rw [← hw]; exact Own.setCells _ _ _); have HF : Hid (Blk V17 (WR.heap.size) T3 40) := Lib.hid (by rw [← hw]; exact Blk.store16a hz16 HT3.out ⟨_, rfl⟩); have hb17 := Below.trans hb16 (hO.below HGE.out (Below.size hb16)); have HB9 := Lib.hid hb17; clear hO hw; skip)
  refine hK.out _ _ ?_ (fun hHeld => ?_)
  · (try dsimp only)
    (first | exact Below.refl _ _ | assumption)
  clear hK K
  (try simp only [Act.put, List.setIfInBounds_toArray, List.set_cons_zero, List.set_cons_succ])
  refine wpAnyH_done (by kernel_rfl) ?_ _
  clear HLH HLK
  go_wp2_with fail
  go_ret
  exact ⟨_, rfl, HF.out, HW1.out.trans (HB9.out.mono HW1.out.size)⟩
end Go.Proofs.YtkcbckafibjflaaGreatDoor
namespace Go.Proofs.YtkcbckafibjflaaGreatDoor
set_option linter.unusedVariables false
set_option linter.unusedSimpArgs false
open Go.RowKit
theorem owns_lowE {w : World} {b b' n : Nat} {v : Value} {f : Nat → Nat} (h : Grow w b v n f) (hb : b' ≤ b) : Grow w b' v n f := by
  refine ⟨h.1, ?_⟩
  rcases h.2 with e | ⟨g, cap, cur, e, hg, r⟩
  · exact .inl e
  · exact .inr ⟨g, cap, cur, e, Nat.le_trans hb hg, r⟩
theorem own_ne {v v' : Value} {bm s : Nat} (h : ∀ q, v.ownBlock = some q → q ≠ bm) (hob : v'.ownBlock = v.ownBlock ∨ v'.ownBlock = some s) (hs : bm < s) : ∀ q, v'.ownBlock = some q → q ≠ bm := fun q hq => by
  rcases hob with e | e
  · rw [e] at hq; exact h q hq
  · rw [e] at hq; have := Option.some.inj hq; omega
def CS9 (b0 bm o0 r j P y : Nat) (A : World) : Prop := A.cell? ⟨b0, o0 + r, none⟩ = some (.int .u8 (P : Nat)) ∧ A.cell? ⟨bm, j, none⟩ = some (.int .u8 (y : Nat))
/-- What the document's Cipher keeps. -/
structure CQ (w0 : World) (W nn p : Nat → Nat) (bk : Nat) (k : Nat) (v : Value) (wr : World) : Prop where
  g : Grow wr w0.heap.size v k (cphF W nn p)
  b : Below w0.heap.size w0 wr
theorem CQ.later {w0 wr w' : World} {W nn p : Nat → Nat} {bk k : Nat} {v : Value} (h : CQ w0 W nn p bk k v wr) (hb : Below wr.heap.size wr w') : CQ w0 W nn p bk k v w' := ⟨h.g.later hb, h.b.trans (hb.mono h.b.size)⟩
set_option maxRecDepth 100000 in
set_option maxHeartbeats 8000000 in
theorem rcipher_any (W nn p : Nat → Nat) (n : Nat) (on ob : Option Addr) (capn cb : Nat) (w : World) (hn : Bytes w on 12 nn) (hp : Bytes w ob n p) (h5 : n < 1000000) :
    Calls Tryz.prog 20 #[.agg (kyC W), .slice on 12 capn, .slice ob n cb] w fun e w' => ∃ v, e = .returned v ∧ Grow w' w.heap.size v n (cphF W nn p) ∧ Below w.heap.size w w' := by
  obtain ⟨bk, hbk⟩ : ∃ y, w.heap.size = y := ⟨_, rfl⟩
  obtain ⟨w1, hw1⟩ : ∃ y, w.alloc (.cells (kyC W) 42) = y := ⟨_, rfl⟩
  have hb1 : Below w.heap.size w w1 := by rw [← hw1]; exact (Below.refl _ _).alloc (Nat.le_refl _) _
  have hk1 : Blk w1 bk (kyC W) 42 := by rw [← hw1, ← hbk]; exact Blk.new _ _ _
  obtain ⟨KC, hKC⟩ : ∃ y, kyC W = y := ⟨_, rfl⟩
  have HLK : Hid (∀ A, Below w1.heap.size w1 A → (loadVar 42 ⟨bk, 0, none⟩).run Tryz.prog A = .ok (.agg KC) A) := Lib.hid fun A hA => by
    have h8 := Blk.below hk1 hA (Blk.lt hk1)
    have h9 := run_loadVar_mid A bk 0 42 (kyL W) _ (Blk.range (C := kyL W) h8) Tryz.underlying42 rfl (by rw [show (kyL W).length = 512 by unfold kyL; simp [rowC_len]]; exact info_ky)
    have e : (kyL W).toArray = KC := hKC
    rw [e] at h9; exact h9
  have HCO : Hid (∀ (A : World) (i : Nat), i < 1000000 → Below w1.heap.size w1 A → Calls Tryz.prog 39 #[.agg KC, .slice on 12 capn, .int .i64 ((2 : Int) + (i : Int))] A fun e w' => e = .returned (.agg (rowC 16 (cW W nn (2 + i))).toArray) ∧ Below A.heap.size A w') := Lib.hid fun A i hi hA => by
    rw [← hKC]
    have h9 := rcounter_any W nn on capn (2 + i) A ((hn.later hb1).later hA) (by omega)
    rw [show ((2 + i : Nat) : Int) = (2 : Int) + (i : Int) by omega] at h9
    exact h9
  have HP := Lib.hid (hp.later hb1)
  have HNL := Lib.hid (show ∀ i, i < 12 → nn i < 256 from fun i hi => (hn i hi).1)
  have HPL := Lib.hid (show ∀ i, i < n → p i < 256 from fun i hi => (hp i hi).1)
  have HB1 := Lib.hid hb1
  have HN5 := Lib.hid h5
  have n0 : (n : Int) ≤ 9223372036854775807 := by omega
  have hz := zero16a_run
  rw [hKC]
  rw [hKC] at hw1
  clear hb1 hk1 hKC hn hp h5
  go_enter Tryz.func20, Tryz.ntmps20
  go_wp2_with fail
  go_loopw [7, 8] (fun v x wr => ∃ i k : Nat, x = .int .i64 ((16 * i : Nat) : Int) ∧ i ≤ 1000000 ∧ k ≤ n ∧ (k = 16 * i ∨ (k = n ∧ n ≤ 16 * i)) ∧ CQ w1 W nn p bk k v wr) (fun _ x _ => n + 16 - (intOf x).toNat)
  case atStart => exact ⟨0, 0, rfl, by decide, Nat.zero_le _, .inl rfl, Grow.nil _ _ _, Below.refl _ _⟩
  case round =>
    obtain ⟨i, k, rfl, hi6, hkn, hki, hQ⟩ := hrel
    have HQ := Lib.hid hQ
    obtain ⟨t, ht⟩ : ∃ t, 16 * i = t := ⟨_, rfl⟩
    rw [ht] at hki ⊢
    by_cases hlt : t < n
    · obtain rfl : k = t := by omega
      have k1 : (k : Int) < (n : Int) := by omega
      have k2 : (k : Int).tdiv 16 = (i : Int) := tdk (n := 16) rfl (by omega)
      have k3 : (k : Int) / 16 = (i : Int) := by omega
      have k4 : IntKind.i64.wrap ((2 : Int) + (i : Int)) = (2 : Int) + (i : Int) := IntWalk.i64_in _ (by omega)
      have k5 : IntKind.i64.wrap (i : Int) = (i : Int) := IntWalk.i64_in _ (by omega)
      have k6 : IntKind.i64.wrap ((k : Int) + 16) = ((16 * (i + 1) : Nat) : Int) := by have := HN5.out; rw [IntWalk.i64_in _ (by omega)]; omega
      have HI := Lib.hid (show 16 * i = k ∧ k < n ∧ i + 1 ≤ 1000000 ∧ n < 1000000 from ⟨ht, hlt, by have := HN5.out; omega, HN5.out⟩)
      have c9 := HLK.out wr HQ.out.b
      clear hQ hki hkn hi6 ht hlt
      go_wp2_with (first | (refine wpList_value rfl (exec_loadC (ty := 42) (v := .agg KC) (b := bk) (f := 0) (x := .tmp 3) rfl rfl c9) ?_))
      refine (HCO.out wr i (by have := HI.out; omega) HQ.out.b).mono ?_
      rintro e w2 ⟨rfl, hb2⟩
      obtain ⟨bm, hbm⟩ : ∃ y, w2.heap.size = y := ⟨_, rfl⟩
      obtain ⟨w3, hw3⟩ : ∃ y, w2.alloc (.cells zero16 40) = y := ⟨_, rfl⟩
      have hb3 : Below w2.heap.size w2 w3 := by rw [← hw3]; exact (Below.refl _ _).alloc (Nat.le_refl _) _
      have hk3 : Blk w3 bm zero16 40 := by rw [← hw3, ← hbm]; exact Blk.new _ _ _
      have HQ3 := Lib.hid ((HQ.out.later hb2).later hb3)
      have HK3 := Lib.hid hk3
      have HMG := Lib.hid (show w1.heap.size ≤ bm ∧ (∀ q, u7.ownBlock = some q → q < bm) from ⟨by have := HQ.out.b.size; have := hb2.size; omega, fun q hq => by have := (HQ.out.g.lt q hq).2; have := hb2.size; omega⟩)
      clear hb2 hb3 hk3
      go_wp2_with (first
        | (refine wpList_store16a rfl (.tmp 9) (.tmp 22) rfl bm rfl (rowC 16 (cW W nn (2 + i))).toArray zero16 rfl HK3.out ⟨_, rfl⟩ ⟨_, rfl⟩ ?_
           obtain ⟨w4, hw4⟩ : ∃ y, w3.setCells bm 0 (rowC 16 (cW W nn (2 + i))).toArray.toList = y := ⟨_, rfl⟩
           have hO : Own bm w3 w4 := (by rw [← hw4]; exact Own.setCells _ _ _)
           have HM4 : Hid (A16 w4 bm (cW W nn (2 + i))) := Lib.hid (by rw [← hw4]; exact Blk.store16a HK3.out ⟨_, rfl⟩ ⟨_, rfl⟩)
           have HQ4 : Hid (CQ w1 W nn p bk k u7 w4) := Lib.hid ⟨HQ3.out.g.ownN hO (fun q hq => Nat.ne_of_lt (HMG.out.2 q hq)), HQ3.out.b.trans (hO.below HMG.out.1 HQ3.out.b.size)⟩
           rw [hw4]
           clear hw4 hO
           refine Hid.out ?_))
      refine Lib.hid ?_
      go_wp2_with fail
      go_loopw [7, 10] (fun v x wr => ∃ j : Nat, j ≤ 16 ∧ x = .int .i64 (j : Int) ∧ k + j ≤ n ∧ CQ w1 W nn p bk (k + j) v wr ∧ A16 wr bm (cW W nn (2 + i)) ∧ (∀ q, v.ownBlock = some q → q ≠ bm)) (fun _ x _ => 16 - (intOf x).toNat)
      case atStart => exact ⟨0, by decide, rfl, by have := HI.out; omega, HQ4.out, HM4.out, fun q hq => Nat.ne_of_lt (HMG.out.2 q hq)⟩
      case round =>
        obtain ⟨j, hj, rfl, hkj, hQ, hM, hne⟩ := hrel
        have HQ := Lib.hid hQ
        have HM := Lib.hid hM
        have HNE := Lib.hid hne
        obtain ⟨r, hr⟩ : ∃ r, k + j = r := ⟨_, rfl⟩
        rw [hr] at HQ hkj
        have j0 : (0 : Int) ≤ (j : Int) := by omega
        by_cases hc : j < 16 ∧ r < n
        · as_aux_lemma =>
          obtain ⟨hc1, hc2⟩ := hc
          have q1 : (j : Int) < 16 := by omega
          have q2 : IntKind.i64.wrap ((k : Int) + (j : Int)) = (r : Int) := by have := HI.out; rw [IntWalk.i64_in _ (by omega)]; omega
          have q3 : (k : Int) + (j : Int) = (r : Int) := by omega
          have q4 : (r : Int) < (n : Int) := by omega
          have q5 : (0 : Int) ≤ (r : Int) := by omega
          have q7 : IntKind.i64.wrap (r : Int) = (r : Int) := IntWalk.i64_in _ (by have := HI.out; omega)
          have q6 : IntKind.i64.wrap ((j : Int) + 1) = ((j + 1 : Nat) : Int) := by rw [IntWalk.i64_in _ (by omega)]; omega
          obtain ⟨h8, b0, o0, rfl, hc0⟩ := HP.out r hc2
          have hbx := (Below.refl wr.heap.size wr).drew
          have HQD := Lib.hid (HQ.out.later hbx)
          have HMD := Lib.hid (Blk.below HM.out hbx (Blk.lt HM.out))
          have HJ := Lib.hid (show j + 1 ≤ 16 ∧ r + 1 ≤ n ∧ k + (j + 1) = r + 1 ∧ r = 16 * i + j ∧ p r < 256 ∧ cW W nn (2 + i) j < 256 from ⟨hc1, hc2, by omega, by have := HI.out; omega, h8, cW_lt HNL.out j hc1⟩)
          clear hQ hM hne hkj hj hr hc1 hc2 h8
          go_upto_region 9 with fail
          have d0 : wr.drew.cell? ⟨b0, o0 + r, none⟩ = some (.int .u8 (p r : Nat)) := cell_below HQD.out.b hc0
          obtain ⟨y, hy⟩ : ∃ y, cW W nn (2 + i) j = y := ⟨_, rfl⟩
          have d1 : wr.drew.cell? ⟨bm, j, none⟩ = some (.int .u8 (y : Nat)) := by rw [← hy]; exact A16.cell HMD.out (by have := HJ.out; omega)
          have HY := Lib.hid hy
          obtain ⟨z, hz9⟩ : ∃ z, p r ^^^ y = z := ⟨_, rfl⟩
          have hyl : y < 256 := by rw [← hy]; exact HJ.out.2.2.2.2.2
          have hxx : bits .xor .u8 (p r : Int) (y : Int) = (z : Int) := by rw [← hz9]; exact u8_xor_nat _ _ HJ.out.2.2.2.2.1 hyl
          have HZ := Lib.hid (show z < 256 ∧ cphF W nn p r = z from ⟨by rw [← hz9]; exact xor_lt256 HJ.out.2.2.2.2.1 hyl, by
            unfold cphF
            rw [show r / 16 = i by have := HJ.out; omega, show r % 16 = j by have := HJ.out; omega, hy, hz9]⟩)
          have HND := Lib.hid (show ∀ q, u7.ownBlock = some q → q ≠ bm from HNE.out)
          have HBM := Lib.hid (Blk.lt HMD.out)
          have HC0 := Lib.hid hc0
          have HYY := Lib.hid hy
          clear hy
          clear hc0 hbx hz9 hyl
          have HS9 := Lib.hid (show CS9 b0 bm o0 r j (p r) y wr.drew from ⟨d0, d1⟩)
          clear d0 d1
          refine wp_region_held_drew (S := (CS9 b0 bm o0 r j (p r) y)) (by kernel_rfl) ?_ (fun hHeld => ?_)
          · (try dsimp only)
            (first | exact HS9.out | exact HS1.out | exact HS6.out)
          generalize wr.drew = WR at *
          refine wpAnyH_take (i := 0) (oi := { dst := some 35, op := Go.Op.move (Go.Operand.tmp 7), type := 22, pos := "ref.go:47", after := #[], guard := none }) (v := ?_) rfl (by kernel_rfl) (by kernel_rfl) (by kernel_rfl) (fun _ _ _ h => h) (Or.inl ⟨by rfl, ?_⟩) (by assumption) ?_
          rotate_left
          · intro wS hSw
            (try dsimp only at hSw)
            go_simp
            (try with_reducible rfl)
          (try simp only [Act.put, List.setIfInBounds_toArray, List.set_cons_zero, List.set_cons_succ])
          refine wpAnyH_take (i := 1) (oi := { dst := some 36, op := Go.Op.move (Go.Operand.tmp 2), type := 22, pos := "ref.go:47", after := #[], guard := none }) (v := ?_) rfl (by kernel_rfl) (by kernel_rfl) (by kernel_rfl) (fun _ _ _ h => h) (Or.inl ⟨by rfl, ?_⟩) (by assumption) ?_
          rotate_left
          · intro wS hSw
            (try dsimp only at hSw)
            go_simp
            (try with_reducible rfl)
          (try simp only [Act.put, List.setIfInBounds_toArray, List.set_cons_zero, List.set_cons_succ])
          refine wpAnyH_take (i := 2) (oi := { dst := some 37, op := Go.Op.move (Go.Operand.tmp 8), type := 3, pos := "ref.go:47", after := #[], guard := none }) (v := ?_) rfl (by kernel_rfl) (by kernel_rfl) (by kernel_rfl) (fun _ _ _ h => h) (Or.inl ⟨by rfl, ?_⟩) (by assumption) ?_
          rotate_left
          · intro wS hSw
            (try dsimp only at hSw)
            go_simp
            (try with_reducible rfl)
          (try simp only [Act.put, List.setIfInBounds_toArray, List.set_cons_zero, List.set_cons_succ])
          refine wpAnyH_take (i := 3) (oi := { dst := some 38, op := Go.Op.move (Go.Operand.tmp 10), type := 3, pos := "ref.go:47", after := #[], guard := none }) (v := ?_) rfl (by kernel_rfl) (by kernel_rfl) (by kernel_rfl) (fun _ _ _ h => h) (Or.inl ⟨by rfl, ?_⟩) (by assumption) ?_
          rotate_left
          · intro wS hSw
            (try dsimp only at hSw)
            go_simp
            (try with_reducible rfl)
          (try simp only [Act.put, List.setIfInBounds_toArray, List.set_cons_zero, List.set_cons_succ])
          refine wpAnyH_take (i := 4) (oi := { dst := some 39, op := Go.Op.binOp Go.BinOp.add 3 (Go.Operand.tmp 37) (Go.Operand.tmp 38) 3, type := 3, pos := "ref.go:47", after := #[{ on := 2, ground := Go.Ground.data }, { on := 3, ground := Go.Ground.data }], guard := none }) (v := ?_) rfl (by kernel_rfl) (by kernel_rfl) (by kernel_rfl) (fun _ _ _ h => h) (Or.inl ⟨by rfl, ?_⟩) (by assumption) ?_
          rotate_left
          · intro wS hSw
            (try dsimp only at hSw)
            go_simp
            (try with_reducible rfl)
          (try simp only [Act.put, List.setIfInBounds_toArray, List.set_cons_zero, List.set_cons_succ])
          refine wpAnyH_take (i := 5) (oi := { dst := some 40, op := Go.Op.indexAddr 22 (Go.Operand.tmp 36) (Go.Operand.tmp 39), type := 0, pos := "ref.go:47", after := #[{ on := 1, ground := Go.Ground.data }, { on := 4, ground := Go.Ground.data }], guard := none }) (v := ?_) rfl (by kernel_rfl) (by kernel_rfl) (by kernel_rfl) (fun _ _ _ h => h) (Or.inl ⟨by rfl, ?_⟩) (by assumption) ?_
          rotate_left
          · intro wS hSw
            (try dsimp only at hSw)
            go_simp
            (try with_reducible rfl)
          (try simp only [Act.put, List.setIfInBounds_toArray, List.set_cons_zero, List.set_cons_succ])
          refine wpAnyH_take (i := 6) (oi := { dst := some 41, op := Go.Op.load 5 (Go.Operand.tmp 40), type := 5, pos := "ref.go:47", after := #[{ on := 5, ground := Go.Ground.data }], guard := none }) (v := ?_) rfl (by kernel_rfl) (by kernel_rfl) (by kernel_rfl) (fun _ _ _ h => h) (Or.inl ⟨by rfl, ?_⟩) (by assumption) ?_
          rotate_left
          · intro wS hSw
            (obtain ⟨d0, d1⟩ := hSw; go_simp; (try with_reducible rfl))
          (try simp only [Act.put, List.setIfInBounds_toArray, List.set_cons_zero, List.set_cons_succ])
          refine wpAnyH_take (i := 7) (oi := { dst := some 42, op := Go.Op.move (Go.Operand.tmp 10), type := 3, pos := "ref.go:47", after := #[], guard := none }) (v := ?_) rfl (by kernel_rfl) (by kernel_rfl) (by kernel_rfl) (fun _ _ _ h => h) (Or.inl ⟨by rfl, ?_⟩) (by assumption) ?_
          rotate_left
          · intro wS hSw
            (try dsimp only at hSw)
            go_simp
            (try with_reducible rfl)
          (try simp only [Act.put, List.setIfInBounds_toArray, List.set_cons_zero, List.set_cons_succ])
          refine wpAnyH_take (i := 8) (oi := { dst := some 43, op := Go.Op.indexAddr 40 (Go.Operand.tmp 9) (Go.Operand.tmp 42), type := 0, pos := "ref.go:47", after := #[{ on := 7, ground := Go.Ground.data }], guard := none }) (v := ?_) rfl (by kernel_rfl) (by kernel_rfl) (by kernel_rfl) (fun _ _ _ h => h) (Or.inl ⟨by rfl, ?_⟩) (by assumption) ?_
          rotate_left
          · intro wS hSw
            (try dsimp only at hSw)
            go_simp
            (try with_reducible rfl)
          (try simp only [Act.put, List.setIfInBounds_toArray, List.set_cons_zero, List.set_cons_succ])
          refine wpAnyH_take (i := 9) (oi := { dst := some 44, op := Go.Op.load 5 (Go.Operand.tmp 43), type := 5, pos := "ref.go:47", after := #[{ on := 8, ground := Go.Ground.data }], guard := none }) (v := ?_) rfl (by kernel_rfl) (by kernel_rfl) (by kernel_rfl) (fun _ _ _ h => h) (Or.inl ⟨by rfl, ?_⟩) (by assumption) ?_
          rotate_left
          · intro wS hSw
            (obtain ⟨d0, d1⟩ := hSw; go_simp; (try with_reducible rfl))
          (try simp only [Act.put, List.setIfInBounds_toArray, List.set_cons_zero, List.set_cons_succ])
          refine wpAnyH_take (i := 10) (oi := { dst := some 45, op := Go.Op.binOp Go.BinOp.xor 5 (Go.Operand.tmp 41) (Go.Operand.tmp 44) 5, type := 5, pos := "ref.go:47", after := #[{ on := 6, ground := Go.Ground.data }, { on := 9, ground := Go.Ground.data }], guard := none }) (v := ?_) rfl (by kernel_rfl) (by kernel_rfl) (by kernel_rfl) (fun _ _ _ h => h) (Or.inl ⟨by rfl, ?_⟩) (by assumption) ?_
          rotate_left
          · intro wS hSw
            (try dsimp only at hSw)
            go_simp
            (try with_reducible rfl)
          (try simp only [Act.put, List.setIfInBounds_toArray, List.set_cons_zero, List.set_cons_succ])
          refine wpAnyH_ready (rs := [11]) (by kernel_rfl) (by simp) ?_
          refine AllReadyH.cons (o := { dst := some 46, op := Go.Op.buildSlice 22 1 #[(0, Go.Operand.tmp 45)], type := 22, pos := "ref.go:47", after := #[{ on := 10, ground := Go.Ground.data }], guard := none }) rfl (fun K hK => ?_) AllReadyH.nil
          go_simp
          (obtain ⟨W1, hW1⟩ : ∃ q, WR.alloc (.cells #[.int .u8 (z : Int)] 5) = q := ⟨_, rfl⟩; rw [hW1]; have hal : Below WR.heap.size WR W1 := (by rw [← hW1]; exact (Below.refl _ _).alloc (Nat.le_refl _) _); have HQA := Lib.hid (HQD.out.later hal); have HMA := Lib.hid (Blk.below HMD.out hal (Blk.lt HMD.out)); have HBA : Hid (Bytes W1 (some ⟨WR.heap.size, 0, none⟩) 1 (fun _ => z)) := Lib.hid (by rw [← hW1]; exact one_u8 rfl HZ.out.1); have HSZ := Lib.hid (Nat.lt_of_lt_of_le HBM.out hal.size); have HS1 : Hid (CS9 b0 bm o0 r j (p r) y W1) := Lib.hid ⟨cell_below HQA.out.b HC0.out, by rw [← HYY.out]; exact A16.cell HMA.out (by have := HJ.out; omega)⟩; clear hW1; skip)
          (try go_wp2_with fail)
          refine hK.out _ _ ?_ (fun hHeld => ?_)
          · (try dsimp only)
            (first | exact HS9.out | exact HS1.out | exact HS6.out)
          clear hK K
          (try simp only [Act.put, List.setIfInBounds_toArray, List.set_cons_zero, List.set_cons_succ])
          refine wpAnyH_ready (rs := [12]) (by kernel_rfl) (by simp) ?_
          refine AllReadyH.cons (o := { dst := some 47, op := Go.Op.call { callee := Go.Callee.builtin Go.Builtin.append, args := #[Go.Operand.tmp 35, Go.Operand.tmp 46], argTypes := #[22, 22] }, type := 22, pos := "ref.go:47", after := #[{ on := 0, ground := Go.Ground.data }, { on := 11, ground := Go.Ground.data }], guard := none }) rfl (fun K hK => ?_) AllReadyH.nil
          (refine step_appO rfl (.tmp 35) (.tmp 46) rfl w1.heap.size u7 r 1 1 (some ⟨WR.heap.size, 0, none⟩) (cphF W nn p) (fun _ => z) W1 rfl HQA.out.g rfl (fun e => by cases e) HBA.out (by have := HJ.out; have := HN5.out; omega) HQA.out.b.size ?_; intro v6 w6 hG6 hg6 hob6; have HQ6 : Hid (CQ w1 W nn p bk (r + 1) v6 w6) := Lib.hid ⟨hG6.congr (catF_self fun q hq => (by rw [show r + q = r by omega]; exact HZ.out.2.symm)), HQA.out.b.trans (grow_bel HQA.out.g HQA.out.b.size hg6)⟩; have HM6 : Hid (A16 w6 bm (cW W nn (2 + i))) := Lib.hid ((own_of_grown hg6).blk HMA.out (ne_own (Blk.lt HMA.out) (fun e => HND.out bm e rfl))); have HN6 : Hid (∀ q, v6.ownBlock = some q → q ≠ bm) := Lib.hid (own_ne HND.out hob6 HSZ.out); have HS6 : Hid (CS9 b0 bm o0 r j (p r) y w6) := Lib.hid ⟨cell_below HQ6.out.b HC0.out, by rw [← HYY.out]; exact A16.cell HM6.out (by have := HJ.out; omega)⟩; clear hG6 hg6 hob6; skip)
          refine hK.out _ _ ?_ (fun hHeld => ?_)
          · (try dsimp only)
            (first | exact HS9.out | exact HS1.out | exact HS6.out)
          clear hK K
          (try simp only [Act.put, List.setIfInBounds_toArray, List.set_cons_zero, List.set_cons_succ])
          refine wpAnyH_take (i := 13) (oi := { dst := some 7, op := Go.Op.assign (Go.Operand.tmp 47), type := 22, pos := "ref.go:47", after := #[{ on := 12, ground := Go.Ground.data }, { on := 12, ground := Go.Ground.chain }, { on := 0, ground := Go.Ground.phase }, { on := 1, ground := Go.Ground.phase }, { on := 2, ground := Go.Ground.phase }, { on := 3, ground := Go.Ground.phase }, { on := 4, ground := Go.Ground.phase }, { on := 5, ground := Go.Ground.phase }, { on := 6, ground := Go.Ground.phase }, { on := 7, ground := Go.Ground.phase }, { on := 8, ground := Go.Ground.phase }, { on := 9, ground := Go.Ground.phase }, { on := 10, ground := Go.Ground.phase }, { on := 11, ground := Go.Ground.phase }, { on := 12, ground := Go.Ground.phase }], guard := none }) (v := ?_) rfl (by kernel_rfl) (by kernel_rfl) (by kernel_rfl) (fun _ _ _ h => h) (Or.inl ⟨by rfl, ?_⟩) (by assumption) ?_
          rotate_left
          · intro wS hSw
            (try dsimp only at hSw)
            go_simp
            (try with_reducible rfl)
          (try simp only [Act.put, List.setIfInBounds_toArray, List.set_cons_zero, List.set_cons_succ])
          refine wpAnyH_done (by kernel_rfl) ?_ _
          go_wp2_with fail
          go_roundw
          case rel => exact ⟨j + 1, HJ.out.1, by first | rfl | go_num, by rw [HJ.out.2.2.1]; exact HJ.out.2.1, by rw [HJ.out.2.2.1]; exact HQ6.out, HM6.out, HN6.out⟩
          case measure => have := HJ.out; simp [intOf]; omega
        · as_aux_lemma =>
          have HX := Lib.hid (show r ≤ n ∧ r = k + j ∧ (r = 16 * (i + 1) ∨ (r = n ∧ n ≤ 16 * (i + 1))) from ⟨hkj, hr.symm, by have := HI.out; omega⟩)
          have hcc : j = 16 ∨ (j < 16 ∧ ¬ r < n) := by omega
          rcases hcc with rfl | ⟨h1, h2⟩
          · clear hQ hM hne hc
            go_wp2_with fail
            go_roundw
            case rel => exact ⟨i + 1, r, by first | rfl | go_num, HI.out.2.2.1, HX.out.1, HX.out.2.2, HQ.out⟩
            case measure => have := HI.out; simp [intOf]; omega
          · have q1 : (j : Int) < 16 := by omega
            have q2 : IntKind.i64.wrap ((k : Int) + (j : Int)) = (r : Int) := by have := HI.out; rw [IntWalk.i64_in _ (by omega)]; omega
            have q3 : (k : Int) + (j : Int) = (r : Int) := by omega
            have q4 : ¬ (r : Int) < (n : Int) := by omega
            have q5 : decide ((r : Int) < (n : Int)) = false := decide_eq_false q4
            have q7 : IntKind.i64.wrap (r : Int) = (r : Int) := IntWalk.i64_in _ (by have := HI.out; omega)
            clear hQ hM hne hc h1 h2
            go_wp2_with fail
            go_roundw
            case rel => exact ⟨i + 1, r, by first | rfl | go_num, HI.out.2.2.1, HX.out.1, HX.out.2.2, HQ.out⟩
            case measure => have := HI.out; simp [intOf]; omega
    · obtain rfl : k = n := by omega
      have k1 : ¬ (t : Int) < (k : Int) := by omega
      clear hQ hki hkn hi6 ht hlt
      go_wp2_with fail
      go_ret
      exact ⟨_, rfl, owns_lowE HQ.out.g (by have := HB1.out.size; omega), by have h9 := HB1.out.trans (HQ.out.b.mono HB1.out.size); first | exact h9 | (rw [hbk] at h9; exact h9)⟩
end Go.Proofs.YtkcbckafibjflaaGreatDoor
