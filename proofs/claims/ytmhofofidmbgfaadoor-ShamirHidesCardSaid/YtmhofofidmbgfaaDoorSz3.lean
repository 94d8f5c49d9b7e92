/- Fewer parts tell nothing: the walk of ShamirHides. -/
import Derived.Test.YtmhofofidmbgfaaDoorSz2
import Derived.Test.YtmhofofidmbgfaaDoorGs
import Derived.Deep.CutRange
import Derived.Deep.DeepCutAuto
import Derived.Deep.CutBlock
namespace Go.Proofs.YtmhofofidmbgfaaDoor
set_option linter.unusedVariables false
set_option linter.unusedSimpArgs false
open Go.RowKit

theorem rot_ne {x a b N : Nat} (h : a < b) (hb : b < N) : (x + a) % N ≠ (x + b) % N := by
  have e : (x + b) % N = ((x + a) % N + (b - a)) % N := by rw [Nat.mod_add_mod]; congr 1; omega
  have hy : (x + a) % N < N := Nat.mod_lt _ (by omega)
  rw [e]
  generalize (x + a) % N = y at *
  rcases Nat.lt_or_ge (y + (b - a)) N with h1 | h1
  · rw [Nat.mod_eq_of_lt h1]; omega
  · rw [Nat.mod_eq_sub_mod h1, Nat.mod_eq_of_lt (by omega)]; omega
/-- The parts that are known. -/
def knS (p : Nat → Nat) (L : Nat) (s d : Nat → Nat) (k : Nat) : Nat → Sh := fun a => ⟨p a + 1, 5, L, shF s d k (p a + 1)⟩
theorem back_is {s d p : Nat → Nat} {k L t : Nat} (hs : ∀ j, j < L → s j < 256) (hd : ∀ i, i < L * k → d i < 256) (hp : ∀ a, a < k → p a + 1 < 256) (hne : ∀ i j, i < j → j < k → p i ≠ p j) (ht : t < L * k) : drF (knS p L s d k) s k t = d t := by
  have hk : 0 < k := by
    rcases Nat.eq_zero_or_pos k with h | h
    · subst h; simp at ht
    · exact h
  have hj : t / k < L := Nat.div_lt_of_lt_mul (by rw [Nat.mul_comm]; exact ht)
  have h := drawF_back (s := s) (d := d) (f := fun a => p a + 1) (k := k) (j := t / k) (L := L) (q := t % k) hs hd hj hp (fun i _ => Nat.succ_ne_zero _) (fun i j h1 h2 e => hne i j h1 h2 (by simp at e; exact e)) (Nat.mod_lt _ hk)
  rw [Nat.mul_comm, Nat.div_add_mod] at h
  exact h
theorem there_is {s d o p : Nat → Nat} {k L a j : Nat} (ho : ∀ j, j < L → o j < 256) (hp : ∀ a, a < k → p a + 1 < 256) (hne : ∀ i j, i < j → j < k → p i ≠ p j) (ha : a < k) (hj : j < L) : shF o (drF (knS p L s d k) o k) k (p a + 1) j = shF s d k (p a + 1) j :=
  drawF_there (o := o) (f := fun a => p a + 1) (b := fun a => shF s d k (p a + 1) j) (d := drF (knS p L s d k) o k) (ho j hj) (fun _ _ => shF_lt _ _ _ _ _) hp (fun i _ => Nat.succ_ne_zero _) (fun i j h1 h2 e => hne i j h1 h2 (by simp at e; exact e)) (fun q hq => by
    rw [drF_at hq]; rfl) ha
def SH1 (w3 : World) (go L : Nat) (_ : Value) (wr : World) : Prop := ∃ fo : Nat → Nat, BRow wr go L fo ∧ (∀ j, j < L → fo j < 256) ∧ Below w3.heap.size w3 wr
theorem upd_bb {f : Nat → Nat} {n i x : Nat} (h : ∀ j, j < n → f j < 256) (hx : x < 256) : ∀ j, j < n → upd f i x j < 256 := fun j hj => by
  unfold upd; split
  · exact hx
  · exact h j hj
theorem Own.blo {tb B : Nat} {w w' : World} (h : Own tb w w') (hb : B ≤ tb) (hs : B ≤ w.heap.size) : Below B w w' := h.below hb hs

set_option maxRecDepth 100000 in
set_option maxHeartbeats 8000000 in
theorem hides_any (os od oa : Option Addr) (ns cs0 nd cd nr cr fx : Nat) (K N0 : Int) (s0 dd r0 : Nat → Nat) (w : World) (hg : Handle w) (hs : Bytes w os ns s0) (hd : Bytes w od nd dd) (hno : os = none → ns = 0) (hnc : ns ≤ cs0) (hcm : cs0 ≤ maxLen) (hnd : nd ≤ maxLen) (hr : Bytes w oa nr r0) (hnr : nr ≤ maxLen) (hfx : fx < 256) :
    Calls Tryd.prog 6 #[.agg #[.slice os ns cs0, .int .i64 K, .int .i64 N0, .slice od nd cd], .slice oa nr cr, .int .u8 (fx : Int)] w fun e w' => e = .returned (.bool true) ∧ Below w.heap.size w w' := by
  have hm2 : nr ≤ 9223372036854775807 := by unfold maxLen at hnr; exact hnr
  obtain ⟨w0, hw0⟩ : ∃ x, w.alloc (.cells #[.slice os ns cs0, .int .i64 K, .int .i64 N0, .slice od nd cd] 57) = x := ⟨_, rfl⟩
  have hb0 : Below w.heap.size w w0 := by rw [← hw0]; exact (Below.refl _ _).alloc (Nat.le_refl _) _
  have HBX : Hid (Blk w0 w.heap.size #[.slice os ns cs0, .int .i64 K, .int .i64 N0, .slice od nd cd] 57) := Lib.hid (by rw [← hw0]; exact Blk.new _ _ _)
  have HL := Lib.hid (laid_any os od ns cs0 nd cd K N0 s0 dd w0 (hs.later hb0) (hd.later hb0) hno hnc hcm hnd)
  have HR0 := Lib.hid hr
  have HG := Lib.hid hg
  have HB0 := Lib.hid hb0
  clear hs hd hno hnc hcm hnd hr hg hb0 hnr
  have g0 : w0.cell? ⟨w.heap.size, 0, none⟩ = some (.slice os ns cs0) := by rw [Blk.cell HBX.out]; rfl
  have g1 : w0.cell? ⟨w.heap.size, 1, none⟩ = some (.int .i64 K) := by rw [Blk.cell HBX.out]; rfl
  have g2 : w0.cell? ⟨w.heap.size, 2, none⟩ = some (.int .i64 N0) := by rw [Blk.cell HBX.out]; rfl
  have g3 : w0.cell? ⟨w.heap.size, 3, none⟩ = some (.slice od nd cd) := by rw [Blk.cell HBX.out]; rfl
  go_enter Tryd.func6, Tryd.ntmps6
  go_wp2_with fail
  refine HL.out.mono ?_
  rintro e w1 ⟨sb, so, L, cs, k, N, db, s, d, rfl, hLd⟩
  have HLD := Lib.hid hLd
  obtain ⟨k1, hk1⟩ : ∃ x, k + 1 = x := ⟨_, rfl⟩
  rw [hk1]
  obtain ⟨M, hM⟩ : ∃ x, L * k = x := ⟨_, rfl⟩
  rw [hM]
  have HK1 := Lib.hid hk1
  have HM := Lib.hid hM
  have hM0 : 0 < M := by rw [← hM]; exact Nat.mul_pos HLD.out.l1 HLD.out.k1
  have hMb : M ≤ 40 * 6 := by rw [← hM]; exact Nat.mul_le_mul HLD.out.l40 HLD.out.k6
  have HLL : Hid (L ≤ 1000 ∧ 1 ≤ L ∧ M ≤ 1000 ∧ 0 < M) := Lib.hid ⟨by have := HLD.out.l40; omega, HLD.out.l1, by omega, hM0⟩
  have HKP : Hid (k1 = k + 1 ∧ 2 ≤ k1 ∧ k1 ≤ N ∧ N ≤ 255 ∧ L ≤ 64 ∧ M = L * k) := Lib.hid (by have := HLD.out.k1; have := HLD.out.nk; have := HLD.out.n15; have := HLD.out.l40; exact ⟨by omega, by omega, by omega, by omega, by omega, hM.symm⟩)
  have HN15 : Hid (N ≤ 15) := Lib.hid HLD.out.n15
  clear hLd HL g0 g1 g2 g3 hw0 hk1 hM hM0 hMb
  go_wp2_with fail
  obtain ⟨b6, hb6⟩ : ∃ x, w1.heap.size = x := ⟨_, rfl⟩
  obtain ⟨w2, hw2⟩ : ∃ x, w1.alloc (.cells #[.int .i64 (k1 : Int), .int .i64 (N : Int), .int .u32 5] 28) = x := ⟨_, rfl⟩
  have hb12 : Below w1.heap.size w1 w2 := by rw [← hw2]; exact (Below.refl _ _).alloc (Nat.le_refl _) _
  have hP2 : Blk w2 b6 [.int .i64 (k1 : Int), .int .i64 (N : Int), .int .u32 5].toArray 28 := by rw [← hw2, ← hb6]; exact Blk.new _ _ _
  refine (gfnew_any _).mono ?_
  rw [hw2]
  rintro e w3 ⟨rfl, hT3, hb23⟩
  obtain ⟨tb, htb⟩ : ∃ x, w2.heap.size = x := ⟨_, rfl⟩
  have hsz3 : tb < w3.heap.size := by rw [← htb]; exact hT3.lt
  have hb13 : Below w1.heap.size w1 w3 := hb12.trans (hb23.mono hb12.size)
  have HB3 : Hid (Below w.heap.size w w3) := Lib.hid ((HB0.out.trans (HLD.out.bel.mono HB0.out.size)).trans (hb13.mono (Nat.le_trans HB0.out.size HLD.out.bel.size)))
  have HN3 : Hid (sb ≠ tb ∧ db ≠ tb ∧ b6 < tb ∧ w.heap.size < b6 ∧ w.heap.size ≤ tb) := Lib.hid (by
    have e1 := (HLD.out.sec.later hb12).apart HLD.out.l1 _ rfl
    have e2 := (HLD.out.dr.later hb12).apart (Nat.mul_pos HLD.out.l1 HLD.out.k1) _ rfl
    have e3 := Blk.lt hP2
    have e4 := Blk.lt (Blk.below HBX.out HLD.out.bel (Blk.lt HBX.out))
    have e5 := HB0.out.size
    simp only at e1 e2
    refine ⟨by omega, by omega, by omega, by omega, by omega⟩)
  have HSEC := Lib.hid (HLD.out.sec.later hb13)
  have HDR : Hid (Bytes w3 (some ⟨db, 0, none⟩) M d) := Lib.hid (by rw [← HM.out]; exact HLD.out.dr.later hb13)
  have HP3 := Lib.hid (Blk.below hP2 hb23 (Blk.lt hP2))
  have HT3 : Hid (TabIn w3 tb) := Lib.hid (by rw [← htb]; exact hT3)
  have HE3 : Hid (Grow (w3.alloc (.cells #[] 5)) w3.heap.size (.slice (some ⟨w3.heap.size, 0, none⟩) 0 0) 0 (fun _ => 0)) := Lib.hid (Grow.empty (Blk.new _ _ _) (Nat.le_refl _) _)
  have HS3b : Hid (Bytes (w3.alloc (.cells #[] 5)) (some ⟨sb, so, none⟩) L s) := Lib.hid (HSEC.out.alloc _)
  have hL40 : L < 1000 := by have := HLD.out.l40; omega
  rw [hb6, htb]
  clear hb12 hP2 hw2 hT3 hb23 hb13 htb hb6
  go_wp2_with (at_builtin; refine wpList_appO rfl (.tmp 32) (.tmp 33) rfl w3.heap.size (.slice (some ⟨w3.heap.size, 0, none⟩) 0 0) 0 L cs (some ⟨sb, so, none⟩) (fun _ => 0) s _ rfl HE3.out rfl (fun e => by cases e) HS3b.out (by omega) ?c1 ?_)
  case c1 => simp
  intro v1 w3a hG hgr hat
  have hG1 : Grow w3a w3.heap.size v1 L s := by
    exact hG.congr fun i hi => by unfold catF; rw [if_neg (Nat.not_lt_zero _), Nat.sub_zero]
  obtain ⟨go, co, rfl, hgo, hco1, hco2, hBR⟩ := BRow.of_grow hG1 HLL.out.2.1
  have hb34 : Below w3.heap.size w3 w3a := ((Below.refl _ _).alloc (Nat.le_refl _) (.cells #[] 5)).grown hgr (by simp) (Grow.block HE3.out)
  have HCO := Lib.hid hco1
  have HGO : Hid (go ≠ tb ∧ w3.heap.size ≤ go) := Lib.hid ⟨by omega, hgo⟩
  have H4 : Hid (BRow w3a go L s ∧ Below w3.heap.size w3 w3a) := Lib.hid ⟨hBR, hb34⟩
  clear hG hG1 hgr hat HE3 HS3b hco1 hco2 hBR hb34 hgo
  go_upto_block 0 with fail
  go_cut [12] (SH1 w3 go L)
  case first =>
    go_wp2_with fail
    go_loopw [12] (fun x wr => ∃ (i : Nat) (fo : Nat → Nat), i ≤ L ∧ x = .int .i64 (i : Int) ∧ BRow wr go L fo ∧ (∀ j, j < L → fo j < 256) ∧ Below w3.heap.size w3 wr) (fun x _ => L - (intOf x).toNat)
    case atStart => exact ⟨0, s, Nat.zero_le _, rfl, H4.out.1, fun j hj => (HSEC.out j hj).1, H4.out.2⟩
    case round =>
      obtain ⟨i, fo, hi, rfl, hB, hF, hb⟩ := hrel
      have HB := Lib.hid hB
      have HF := Lib.hid hF
      have HBB := Lib.hid hb
      clear hB hF hb
      by_cases h1 : i < L
      · by_cases h2 : i < nr
        · obtain ⟨hx8, ob, oo, rfl, hx⟩ := (HR0.out.later (HB3.out.trans (HBB.out.mono HB3.out.size))) i h2
          have q0 : (0 : Int) ≤ (i : Int) ∧ (i : Int) < (L : Int) ∧ (i : Int) < (nr : Int) := by omega
          have q1 := HB.out.cell h1
          have q2 := HB.out.free i
          have HB5 := Lib.hid (HB.out.set i (r0 i))
          have HBB5 := Lib.hid (HBB.out.setCell (p := ⟨go, i, none⟩) HGO.out.2 (.int .u8 (r0 i : Nat)))
          have HF5 := Lib.hid (upd_bb (i := i) HF.out hx8)
          clear hx8
          go_wp2_with fail
          go_roundw
          case rel => exact ⟨i + 1, _, by omega, by go_num, HB5.out, HF5.out, HBB5.out⟩
          case measure => simp [intOf]; omega
        · have q0 : (i : Int) < (L : Int) := by omega
          have q1 : decide ((i : Int) < (nr : Int)) = false := decide_eq_false (by omega)
          go_wp2_with fail
          go_meet
          exact ⟨fo, HB.out, HF.out, HBB.out⟩
      · have q1 : decide ((i : Int) < (L : Int)) = false := decide_eq_false (by omega)
        go_wp2_with fail
        go_meet
        exact ⟨fo, HB.out, HF.out, HBB.out⟩
  case rest =>
    obtain ⟨fo, hB, hF, hb⟩ := hcut
    have HFB := Lib.hid hF
    have HFO : Hid (Bytes wc (some ⟨go, 0, none⟩) L fo) := Lib.hid (hB.bytes hF)
    have HBC := Lib.hid hb
    have HN5 : Hid (b6 ≠ tb ∧ sb ≠ tb ∧ go ≠ tb ∧ db ≠ tb ∧ w.heap.size ≤ tb) := Lib.hid (by have := HN3.out; have := HGO.out; omega)
    have HSEC4 := Lib.hid (HSEC.out.later hb)
    have HDR4 := Lib.hid (HDR.out.later hb)
    have HP4 := Lib.hid (Blk.below HP3.out hb (Blk.lt HP3.out))
    have HB4 := Lib.hid (HB3.out.trans (hb.mono HB3.out.size))
    have HSP1 := Lib.hid (split_any tb k1 N k 5 L cs M M sb so db 0 s d wc (HT3.out.below hb) HSEC4.out HN5.out.2.1 HDR4.out HN5.out.2.2.2.1 HKP.out.1 HKP.out.2.1 HKP.out.2.2.1 HKP.out.2.2.2.1 HLL.out.2.1 HKP.out.2.2.2.2.1 HKP.out.2.2.2.2.2 (Nat.le_refl _))
    have c0 : wc.cell? ⟨b6, 0, none⟩ = some (.int .i64 (k1 : Int)) := by rw [Blk.cell HP4.out]; rfl
    have c1 : wc.cell? ⟨b6, 1, none⟩ = some (.int .i64 (N : Int)) := by rw [Blk.cell HP4.out]; rfl
    have c2 : wc.cell? ⟨b6, 2, none⟩ = some (.int .u32 5) := by rw [Blk.cell HP4.out]; rfl
    clear hB hF hb H4 HT3 HSEC HDR HP3
    go_wp2_with fail
    refine HSP1.out.mono ?_
    rintro e w4 ⟨wA1, rfl, hle, hOA, hR⟩
    have HO4 := Lib.hid (hOA.trans hR.own)
    have HSR4 := Lib.hid hR
    have HP5 := Lib.hid (HO4.out.blk HP4.out HN5.out.1)
    have c0 : w4.cell? ⟨b6, 0, none⟩ = some (.int .i64 (k1 : Int)) := by rw [Blk.cell HP5.out]; rfl
    have c1 : w4.cell? ⟨b6, 1, none⟩ = some (.int .i64 (N : Int)) := by rw [Blk.cell HP5.out]; rfl
    clear hR hOA hle HSP1 c2
    go_wp2_with fail
    go_loopw [15] (fun x wr => ∃ i : Nat, i ≤ N ∧ x = .int .i64 (i : Int) ∧ wr = w4) (fun x _ => N - (intOf x).toNat)
    case atStart => exact ⟨0, Nat.zero_le _, rfl, (by first | rfl | trivial)⟩
    case round =>
      obtain ⟨i, hi, rfl, rfl⟩ := hrel
      by_cases hlt : i < N
      · have hi0 : (0 : Int) ≤ (i : Int) ∧ (i : Int) < (N : Int) := by omega
        have hN255 := HKP.out.2.2.2.1
        have d1 : wr.cell? ⟨wA1.heap.size, i * 3, none⟩ = some (.int .u8 ((i : Int) + 1)) := (HSR4.out.cells hlt).1
        have d2 : wr.cell? ⟨wA1.heap.size, i * 3 + 2, none⟩ = some (.slice (some ⟨wA1.heap.size + 1 + i, 0, none⟩) L L) := (HSR4.out.cells hlt).2.2
        have e1 : IntKind.i64.wrap ((i : Int) + 1) = (i : Int) + 1 := IntWalk.i64_in _ (by omega)
        go_wp2_with fail
        go_roundw
        case rel => exact ⟨i + 1, by omega, by go_num, (by first | rfl | trivial)⟩
        case measure => simp [intOf]; omega
      · obtain rfl : N = i := by omega
        generalize wr = w4 at *
        obtain ⟨Bk, hBk⟩ : ∃ x, w4.heap.size = x := ⟨_, rfl⟩
        have HBK : Hid (w4.heap.size = Bk ∧ tb < Bk) := Lib.hid ⟨hBk, by have := HSR4.out.tab.lt; omega⟩
        have hkk : (k1 : Int) - 1 = (k : Int) := by have := HKP.out.1; omega
        have hks : (0 : Int) ≤ (k1 : Int) ∧ (1 : Int) ≤ (k1 : Int) ∧ (k1 : Int) ≤ 400 := by have := HKP.out; omega
        have hwk : IntKind.i64.wrap (k : Int) = (k : Int) := IntWalk.i64_in _ (by omega)
        obtain ⟨p, hp⟩ : ∃ p : Nat → Nat, (fun a => (fx + a) % N) = p := ⟨_, rfl⟩
        have hN0 : 0 < N := by have := HKP.out; omega
        have HPE : Hid (∀ a, (fx + a) % N = p a) := Lib.hid fun a => by rw [← hp]
        have HPL : Hid (∀ a, p a < N) := Lib.hid fun a => by rw [← hp]; exact Nat.mod_lt _ hN0
        have HPN : Hid (∀ i j, i < j → j < k → p i ≠ p j) := Lib.hid fun i j h1 h2 => by rw [← hp]; exact rot_ne h1 (by have := HKP.out; omega)
        have HP8 : Hid (∀ a, a < k → p a + 1 < 256) := Lib.hid fun a _ => by have := HPL.out a; have := HKP.out; have := HN15.out; omega
        clear hp hBk c1
        go_wp2_with fail
        go_loopw [16, 17] (fun v x wr => ∃ a : Nat, a ≤ k ∧ x = .int .i64 (a : Int) ∧ GS 52 tb wr Bk v a (knS p L s d k) ∧ Below Bk w4 wr) (fun _ x _ => k - (intOf x).toNat)
        case atStart => exact ⟨0, Nat.zero_le _, rfl, GS.nil _ _ _ _ _, Below.refl _ _⟩
        case round =>
          obtain ⟨a, ha, rfl, hGS, hb⟩ := hrel
          have HGS := Lib.hid hGS
          have HBW := Lib.hid hb
          clear hGS hb
          have HBW4 : Hid (Below w4.heap.size w4 wr) := Lib.hid (by have := HBW.out; rw [← HBK.out.1] at this; exact this)
          have HSRW := Lib.hid (HSR4.out.later HBW4.out)
          have HPW := Lib.hid (Blk.below HP5.out HBW4.out (Blk.lt HP5.out))
          have c0 : wr.cell? ⟨b6, 0, none⟩ = some (.int .i64 (k1 : Int)) := by rw [Blk.cell HPW.out]; rfl
          have c1 : wr.cell? ⟨b6, 1, none⟩ = some (.int .i64 (N : Int)) := by rw [Blk.cell HPW.out]; rfl
          by_cases hlt : a < k
          · have ha0 : (0 : Int) ≤ (a : Int) ∧ (a : Int) < (k : Int) := by omega
            have hk255 : k < 255 ∧ N ≤ 255 := by have := HKP.out; omega
            obtain ⟨pa, hpa⟩ : ∃ x, p a = x := ⟨_, rfl⟩
            have hpN : pa < N := by rw [← hpa]; exact HPL.out a
            have hpe : (fx + a) % N = pa := by rw [HPE.out, hpa]
            have t1 : ((fx : Int) + (a : Int)).tmod (N : Int) = (pa : Int) := by rw [Int.tmod_eq_emod_of_nonneg (by omega), ← hpe]; exact (Int.natCast_emod _ _).symm
            have t3 : ((fx : Int) + (a : Int)) % (N : Int) = (pa : Int) := by rw [← hpe]; exact (Int.natCast_emod _ _).symm
            have t5 : IntKind.i64.wrap (fx : Int) = (fx : Int) := IntWalk.i64_in _ (by omega)
            have t7 : IntKind.i64.wrap ((fx : Int) + (a : Int)) = (fx : Int) + (a : Int) := IntWalk.i64_in _ (by omega)
            have t6 : ((N : Int) == 0) = false := by rw [beq_eq_false_iff_ne]; omega
            have t11 : ¬ N = 0 := by omega
            have t8 : (0 : Int) ≤ (pa : Int) ∧ (pa : Int) < (N : Int) := by omega
            have t9 : IntKind.i64.wrap (pa : Int) = (pa : Int) := IntWalk.i64_in _ (by omega)
            have HRG : Hid (wr.rangeAt wA1.heap.size (pa * 3) [.int .u8 ((pa : Int) + 1), .int .u32 5, .slice (some ⟨wA1.heap.size + 1 + pa, 0, none⟩) L L]) := Lib.hid (HSRW.out.rangeO (Own.refl _ _) hpN)
            have HIS : Hid (IsSh tb wr [.int .u8 ((pa : Int) + 1), .int .u32 5, .slice (some ⟨wA1.heap.size + 1 + pa, 0, none⟩) L L] (knS p L s d k a)) := Lib.hid (by unfold knS; rw [hpa]; exact HSRW.out.isSh (fun x j _ _ => shF_lt _ _ _ _ _) (by have := HKP.out; unfold maxLen; omega) hpN)
            have HAW : Hid (Away u16 [.int .u8 ((pa : Int) + 1), .int .u32 5, .slice (some ⟨wA1.heap.size + 1 + pa, 0, none⟩) L L]) := Lib.hid fun a2 l cp hm _ e => by
              simp at hm
              obtain ⟨rfl, -, -⟩ := hm
              have h1 := (HGS.out.block _ e).1
              have h2 := HSR4.out.big
              have h3 := HBK.out.1
              simp only at h1
              omega
            obtain ⟨H, hH⟩ : ∃ x, wr.heap.size = x := ⟨_, rfl⟩
            have HHH := Lib.hid hH
            have HBH : Hid (Bk ≤ wr.heap.size) := Lib.hid (by have := HBW4.out.size; have := HBK.out.1; omega)
            have ha9 : a < 1000000 := by omega
            have hu : Tryd.prog.underlying 29 = some (.slice 52) := by kernel_rfl
            clear hpa hpe
            go_wp2_with (first
              | (refine wpList_value rfl (exec_loadM (x := .tmp 113) (cs := [.int .u8 ((pa : Int) + 1), .int .u32 5, .slice (some ⟨wA1.heap.size + 1 + pa, 0, none⟩) L L]) rfl rfl HRG.out Tryd.underlying52 rfl info_share3) ?_)
              | (refine wpList_appGS hu info_share rfl rfl (.tmp 104) (.tmp 115) rfl tb Bk u16 a (knS p L s d k) [.int .u8 ((pa : Int) + 1), .int .u32 5, .slice (some ⟨wA1.heap.size + 1 + pa, 0, none⟩) L L] _ rfl HGS.out HIS.out HAW.out H HHH.out rfl ha9 HBH.out ?_; intro v6 w6 hG6 hg6 hb6 hs6; have HG6 := Lib.hid hG6; have HB6 := Lib.hid (HBW.out.trans hb6); clear hG6 hg6 hb6 hs6))
            go_roundw
            case rel => exact ⟨a + 1, by omega, by go_num, HG6.out, HB6.out⟩
            case measure => simp [intOf]; omega
          · obtain rfl : k = a := by omega
            obtain ⟨ok, ck, rfl, hck, hcm, hSS⟩ := HGS.out.shs (.inl HBK.out.2)
            have HSS := Lib.hid hSS
            have c2 : wr.cell? ⟨b6, 2, none⟩ = some (.int .u32 5) := by rw [Blk.cell HPW.out]; rfl
            have HOW := Lib.hid (HO4.out.then_fresh HBW4.out)
            have HFOW := Lib.hid (HFO.out.own HOW.out (Apart.of_ne HN5.out.2.2.1))
            have HD1 := Lib.hid (drawn_any tb L co k ck k1 N 5 (some ⟨go, 0, none⟩) ok fo (knS p L s d k) wr HSRW.out.tab HFOW.out (Apart.of_ne HN5.out.2.2.1) HSS.out (fun _ _ => rfl) (fun a ha => ⟨HP8.out a ha, Nat.succ_ne_zero _⟩) (fun i j h1 h2 e => HPN.out i j h1 h2 (by simp [knS] at e; exact e)) HKP.out.1 (by have := HKP.out; omega) (by have := HKP.out; omega) HLL.out.2.1 (by have := HKP.out; omega))
            rw [← HKP.out.2.2.2.2.2] at HD1
            clear hck hcm hSS HGS HO4 HSR4 HBW HBW4 HFO
            go_wp2_with fail
            refine HD1.out.mono ?_
            rintro e w5 ⟨g1, q1, rfl, hg1, hq1, hB1, hT5, hO5⟩
            have HO5 := Lib.hid (HOW.out.trans hO5)
            have HP6 := Lib.hid (hO5.blk HPW.out HN5.out.1)
            have HGT : Hid (g1 ≠ tb ∧ wr.heap.size ≤ g1) := Lib.hid ⟨by have := HSRW.out.tab.lt; omega, hg1⟩
            have HF5 := Lib.hid hB1
            have c0 : w5.cell? ⟨b6, 0, none⟩ = some (.int .i64 (k1 : Int)) := by rw [Blk.cell HP6.out]; rfl
            have c1 : w5.cell? ⟨b6, 1, none⟩ = some (.int .i64 (N : Int)) := by rw [Blk.cell HP6.out]; rfl
            have c2 : w5.cell? ⟨b6, 2, none⟩ = some (.int .u32 5) := by rw [Blk.cell HP6.out]; rfl
            have HSP2 := Lib.hid (split_any tb k1 N k 5 L co M q1 go 0 g1 0 fo (drF (knS p L s d k) fo k) w5 hT5 (HFOW.out.own hO5 (Apart.of_ne HN5.out.2.2.1)) HN5.out.2.2.1 hB1 HGT.out.1 HKP.out.1 HKP.out.2.1 HKP.out.2.2.1 HKP.out.2.2.2.1 HLL.out.2.1 HKP.out.2.2.2.2.1 HKP.out.2.2.2.2.2 hq1)
            have HSS5 := Lib.hid (HSS.out.own hO5)
            have HSR5 := Lib.hid (HSRW.out.left ⟨hT5, hO5⟩)
            clear hg1 hq1 hB1 hT5 hO5 HD1 HOW HPW HSS
            go_wp2_with fail
            refine HSP2.out.mono ?_
            rintro e w6 ⟨wA2, rfl, hle, hOA, hR⟩
            have hO6 : Own tb w5 w6 := hOA.trans hR.own
            have HO6 := Lib.hid (HO5.out.trans hO6)
            have HP7 := Lib.hid (hO6.blk HP6.out HN5.out.1)
            have HS2 := Lib.hid hR
            have HSS6 := Lib.hid (HSS5.out.own hO6)
            have c0 : w6.cell? ⟨b6, 0, none⟩ = some (.int .i64 (k1 : Int)) := by rw [Blk.cell HP7.out]; rfl
            have c1 : w6.cell? ⟨b6, 1, none⟩ = some (.int .i64 (N : Int)) := by rw [Blk.cell HP7.out]; rfl
            have c2 : w6.cell? ⟨b6, 2, none⟩ = some (.int .u32 5) := by rw [Blk.cell HP7.out]; rfl
            have HD2 := Lib.hid (drawn_any tb L cs k ck k1 N 5 (some ⟨sb, so, none⟩) ok s (knS p L s d k) w6 hR.tab (HSEC4.out.own HO6.out (Apart.of_ne HN5.out.2.1)) (Apart.of_ne HN5.out.2.1) HSS6.out (fun _ _ => rfl) (fun a ha => ⟨HP8.out a ha, Nat.succ_ne_zero _⟩) (fun i j h1 h2 e => HPN.out i j h1 h2 (by simp [knS] at e; exact e)) HKP.out.1 (by have := HKP.out; omega) (by have := HKP.out; omega) HLL.out.2.1 (by have := HKP.out; omega))
            rw [← HKP.out.2.2.2.2.2] at HD2
            clear hle hOA hR hO6 HSP2 HO5 HP6 HSS5
            go_wp2_with fail
            refine HD2.out.mono ?_
            rintro e w7 ⟨g2, q2, rfl, hg2, hq2, hB2, hT7, hO7⟩
            have HO7 := Lib.hid (HO6.out.trans hO7)
            have HP9 := Lib.hid (hO7.blk HP7.out HN5.out.1)
            have HS7 := Lib.hid (HS2.out.left ⟨hT7, hO7⟩)
            have HSS7 := Lib.hid (HSS6.out.own hO7)
            have c1 : w7.cell? ⟨b6, 1, none⟩ = some (.int .i64 (N : Int)) := by rw [Blk.cell HP9.out]; rfl
            have hv1 : (convert 22 9 (.slice (some ⟨g2, 0, none⟩) M q2)).run Tryd.prog w7 = .ok (.string (strF M d)) w7 := by
              rw [Bytes.conv hB2, strF_congr (g := d) fun j hj => back_is (fun i hi => (HSEC4.out i hi).1) (fun i hi => (HDR4.out i (by rw [HKP.out.2.2.2.2.2]; exact hi)).1) HP8.out HPN.out (by rw [← HKP.out.2.2.2.2.2]; exact hj)]
            have hv2 : (convert 22 9 (.slice (some ⟨db, 0, none⟩) M M)).run Tryd.prog w7 = .ok (.string (strF M d)) w7 := Bytes.conv (HDR4.out.own HO7.out (Apart.of_ne HN5.out.2.2.2.1))
            clear hg2 hq2 hB2 hT7 hO7 HD2 HO6 HP7 HS2 HSS6
            go_wp2_with fail
            clear hv1 hv2 c1
            go_loopw [24] (fun x wr => ∃ i : Nat, i ≤ k ∧ x = .int .i64 (i : Int) ∧ Below w7.heap.size w7 wr) (fun x _ => k - (intOf x).toNat)
            case atStart => exact ⟨0, Nat.zero_le _, rfl, Below.refl _ _⟩
            case round =>
              obtain ⟨i, hi, rfl, hb⟩ := hrel
              have HB8 := Lib.hid hb
              clear hb
              by_cases hlt : i < k
              · have hi0 : (0 : Int) ≤ (i : Int) ∧ (i : Int) < (k : Int) := by omega
                have hk15 : k ≤ 15 ∧ N ≤ 15 := by have := HKP.out; have := HN15.out; omega
                obtain ⟨b, off, od, cap, rfl, hbt, hfB, -, -, -, hdA, hc0, -, hc2⟩ := HSS7.out.get i hlt
                have hfB : Bytes w7 od L (shF s d k (p i + 1)) := hfB
                have hc0 : w7.cell? ⟨b, off + i * 3, none⟩ = some (.int .u8 ((p i + 1 : Nat) : Int)) := hc0
                have hc2 : w7.cell? ⟨b, off + i * 3 + 2, none⟩ = some (.slice od L cap) := hc2
                have hTH : ∀ j, j < L → shF fo (drF (knS p L s d k) fo k) k (p i + 1) j = shF s d k (p i + 1) j := fun j hj => there_is HFB.out HP8.out HPN.out hlt hj
                have hpN := HPL.out i
                obtain ⟨xi, hxi⟩ : ∃ x, p i + 1 = x := ⟨_, rfl⟩
                obtain ⟨pi, hpi⟩ : ∃ x, p i = x := ⟨_, rfl⟩
                rw [hxi] at hfB hc0 hTH
                rw [hpi] at hxi hpN
                obtain ⟨-, fb, fo9, rfl, -⟩ := hfB 0 HLL.out.2.1
                obtain ⟨S1, hS1⟩ : ∃ x, strF L (shF s d k xi) = x := ⟨_, rfl⟩
                obtain ⟨h1, hh1⟩ : ∃ x, wA2.heap.size + 1 + pi = x := ⟨_, rfl⟩
                have HX0 : Hid (∀ w9, Below w7.heap.size w7 w9 → w9.cell? ⟨b, off + i * 3, none⟩ = some (.int .u8 (xi : Int))) := Lib.hid fun w9 h9 => (Own.of_below (b := tb) h9).cell hc0 hbt
                have HX2 : Hid (∀ w9, Below w7.heap.size w7 w9 → w9.cell? ⟨b, off + i * 3 + 2, none⟩ = some (.slice (some ⟨fb, fo9, none⟩) L cap)) := Lib.hid fun w9 h9 => (Own.of_below (b := tb) h9).cell hc2 hbt
                have HY2 : Hid (∀ w9, Below w7.heap.size w7 w9 → w9.cell? ⟨wA2.heap.size, pi * 3 + 2, none⟩ = some (.slice (some ⟨h1, 0, none⟩) L L)) := Lib.hid fun w9 h9 => by rw [← hh1]; exact ((HS7.out.later h9).cells hpN).2.2
                have HC1 : Hid (∀ w9, Below w7.heap.size w7 w9 → (convert 22 9 (.slice (some ⟨h1, 0, none⟩) L L)).run Tryd.prog w9 = .ok (.string S1) w9) := Lib.hid fun w9 h9 => by
                  have e := Bytes.conv (cap := L) (((HS7.out.later h9).rows pi hpN).bytes fun j hj => shF_lt _ _ _ _ _)
                  rw [hh1] at e
                  rw [e, strF_congr (g := shF s d k xi) fun j hj => by rw [hxi]; exact hTH j hj, hS1]
                have HC2 : Hid (∀ w9, Below w7.heap.size w7 w9 → (convert 22 9 (.slice (some ⟨fb, fo9, none⟩) L cap)).run Tryd.prog w9 = .ok (.string S1) w9) := Lib.hid fun w9 h9 => by
                  rw [← hS1]; exact Bytes.conv (hfB.later h9)
                have e1 : (xi : Int) - 1 = (pi : Int) := by omega
                have e2 : IntKind.u8.wrap (pi : Int) = (pi : Int) := u8_in (n := pi) (by omega)
                have e3 : (0 : Int) ≤ (pi : Int) ∧ (pi : Int) < (N : Int) := by omega
                have hP_0 : Below w7.heap.size w7 wr.drew := HB8.out.drew
                clear hfB hc0 hc2 hTH hxi hpi hS1 hh1 hdA hbt
                go_wp2_with fail
                refine wp_region_held_drew (S := (Below w7.heap.size w7)) (by kernel_rfl) ?_ (fun hHeld => ?_)
                · (try dsimp only)
                  first | assumption | exact hP_0
                generalize wr.drew = W0 at *
                refine wpAnyH_take (i := 0) (oi := { dst := some 171, op := Go.Op.move (Go.Operand.tmp 20), type := 29, pos := "law.go:170", after := #[], guard := none }) (v := ?_) rfl (by kernel_rfl) (by kernel_rfl) (by kernel_rfl) (fun _ _ _ h => h) (Or.inl ⟨by rfl, ?_⟩) (by assumption) ?_
                rotate_left
                · intro wS hSw
                  (try dsimp only at hSw)
                  go_simp
                  (try with_reducible rfl)
                (try simp only [Act.put, List.setIfInBounds_toArray, List.set_cons_zero, List.set_cons_succ])
                refine wpAnyH_take (i := 1) (oi := { dst := some 172, op := Go.Op.move (Go.Operand.tmp 16), type := 29, pos := "law.go:170", after := #[], guard := none }) (v := ?_) rfl (by kernel_rfl) (by kernel_rfl) (by kernel_rfl) (fun _ _ _ h => h) (Or.inl ⟨by rfl, ?_⟩) (by assumption) ?_
                rotate_left
                · intro wS hSw
                  (try dsimp only at hSw)
                  go_simp
                  (try with_reducible rfl)
                (try simp only [Act.put, List.setIfInBounds_toArray, List.set_cons_zero, List.set_cons_succ])
                refine wpAnyH_take (i := 2) (oi := { dst := some 173, op := Go.Op.move (Go.Operand.tmp 24), type := 3, pos := "law.go:170", after := #[], guard := none }) (v := ?_) rfl (by kernel_rfl) (by kernel_rfl) (by kernel_rfl) (fun _ _ _ h => h) (Or.inl ⟨by rfl, ?_⟩) (by assumption) ?_
                rotate_left
                · intro wS hSw
                  (try dsimp only at hSw)
                  go_simp
                  (try with_reducible rfl)
                (try simp only [Act.put, List.setIfInBounds_toArray, List.set_cons_zero, List.set_cons_succ])
                refine wpAnyH_take (i := 3) (oi := { dst := some 174, op := Go.Op.indexAddr 29 (Go.Operand.tmp 172) (Go.Operand.tmp 173), type := 0, pos := "law.go:170", after := #[{ on := 1, ground := Go.Ground.data }, { on := 2, ground := Go.Ground.data }], guard := none }) (v := ?_) rfl (by kernel_rfl) (by kernel_rfl) (by kernel_rfl) (fun _ _ _ h => h) (Or.inl ⟨by rfl, ?_⟩) (by assumption) ?_
                rotate_left
                · intro wS hSw
                  (try dsimp only at hSw)
                  go_simp
                  (try with_reducible rfl)
                (try simp only [Act.put, List.setIfInBounds_toArray, List.set_cons_zero, List.set_cons_succ])
                refine wpAnyH_take (i := 4) (oi := { dst := some 175, op := Go.Op.fieldAddr 52 (Go.Operand.tmp 174) 0, type := 0, pos := "law.go:170", after := #[{ on := 3, ground := Go.Ground.data }], guard := none }) (v := ?_) rfl (by kernel_rfl) (by kernel_rfl) (by kernel_rfl) (fun _ _ _ h => h) (Or.inl ⟨by rfl, ?_⟩) (by assumption) ?_
                rotate_left
                · intro wS hSw
                  (try dsimp only at hSw)
                  go_simp
                  (try with_reducible rfl)
                (try simp only [Act.put, List.setIfInBounds_toArray, List.set_cons_zero, List.set_cons_succ])
                refine wpAnyH_take (i := 5) (oi := { dst := some 176, op := Go.Op.load 5 (Go.Operand.tmp 175), type := 5, pos := "law.go:170", after := #[{ on := 4, ground := Go.Ground.data }], guard := none }) (v := ?_) rfl (by kernel_rfl) (by kernel_rfl) (by kernel_rfl) (fun _ _ _ h => h) (Or.inl ⟨by rfl, ?_⟩) (by assumption) ?_
                rotate_left
                · intro wS hSw
                  ((have c9 := HX0.out _ hSw); go_simp; (try with_reducible rfl))
                (try simp only [Act.put, List.setIfInBounds_toArray, List.set_cons_zero, List.set_cons_succ])
                refine wpAnyH_take (i := 6) (oi := { dst := some 177, op := Go.Op.binOp Go.BinOp.sub 5 (Go.Operand.tmp 176) (Go.Operand.const (Go.Value.int Go.IntKind.u8 1)) 5, type := 5, pos := "law.go:170", after := #[{ on := 5, ground := Go.Ground.data }], guard := none }) (v := ?_) rfl (by kernel_rfl) (by kernel_rfl) (by kernel_rfl) (fun _ _ _ h => h) (Or.inl ⟨by rfl, ?_⟩) (by assumption) ?_
                rotate_left
                · intro wS hSw
                  (try dsimp only at hSw)
                  go_simp
                  (try with_reducible rfl)
                (try simp only [Act.put, List.setIfInBounds_toArray, List.set_cons_zero, List.set_cons_succ])
                refine wpAnyH_take (i := 7) (oi := { dst := some 178, op := Go.Op.indexAddr 29 (Go.Operand.tmp 171) (Go.Operand.tmp 177), type := 0, pos := "law.go:170", after := #[{ on := 0, ground := Go.Ground.data }, { on := 6, ground := Go.Ground.data }], guard := none }) (v := ?_) rfl (by kernel_rfl) (by kernel_rfl) (by kernel_rfl) (fun _ _ _ h => h) (Or.inl ⟨by rfl, ?_⟩) (by assumption) ?_
                rotate_left
                · intro wS hSw
                  (try dsimp only at hSw)
                  go_simp
                  (try with_reducible rfl)
                (try simp only [Act.put, List.setIfInBounds_toArray, List.set_cons_zero, List.set_cons_succ])
                refine wpAnyH_take (i := 8) (oi := { dst := some 179, op := Go.Op.fieldAddr 52 (Go.Operand.tmp 178) 2, type := 0, pos := "law.go:170", after := #[{ on := 7, ground := Go.Ground.data }], guard := none }) (v := ?_) rfl (by kernel_rfl) (by kernel_rfl) (by kernel_rfl) (fun _ _ _ h => h) (Or.inl ⟨by rfl, ?_⟩) (by assumption) ?_
                rotate_left
                · intro wS hSw
                  (try dsimp only at hSw)
                  go_simp
                  (try with_reducible rfl)
                (try simp only [Act.put, List.setIfInBounds_toArray, List.set_cons_zero, List.set_cons_succ])
                refine wpAnyH_take (i := 9) (oi := { dst := some 180, op := Go.Op.load 22 (Go.Operand.tmp 179), type := 22, pos := "law.go:170", after := #[{ on := 8, ground := Go.Ground.data }], guard := none }) (v := ?_) rfl (by kernel_rfl) (by kernel_rfl) (by kernel_rfl) (fun _ _ _ h => h) (Or.inl ⟨by rfl, ?_⟩) (by assumption) ?_
                rotate_left
                · intro wS hSw
                  ((have c9 := HY2.out _ hSw); go_simp; (try with_reducible rfl))
                (try simp only [Act.put, List.setIfInBounds_toArray, List.set_cons_zero, List.set_cons_succ])
                refine wpAnyH_take (i := 10) (oi := { dst := some 181, op := Go.Op.convert 22 9 (Go.Operand.tmp 180), type := 9, pos := "law.go:170", after := #[{ on := 9, ground := Go.Ground.data }], guard := none }) (v := ?_) rfl (by kernel_rfl) (by kernel_rfl) (by kernel_rfl) (fun _ _ _ h => h) (Or.inl ⟨by rfl, ?_⟩) (by assumption) ?_
                rotate_left
                · intro wS hSw
                  ((have c9 := HC1.out _ hSw); go_simp; (try with_reducible rfl))
                (try simp only [Act.put, List.setIfInBounds_toArray, List.set_cons_zero, List.set_cons_succ])
                refine wpAnyH_take (i := 11) (oi := { dst := some 182, op := Go.Op.move (Go.Operand.tmp 16), type := 29, pos := "law.go:170", after := #[], guard := none }) (v := ?_) rfl (by kernel_rfl) (by kernel_rfl) (by kernel_rfl) (fun _ _ _ h => h) (Or.inl ⟨by rfl, ?_⟩) (by assumption) ?_
                rotate_left
                · intro wS hSw
                  (try dsimp only at hSw)
                  go_simp
                  (try with_reducible rfl)
                (try simp only [Act.put, List.setIfInBounds_toArray, List.set_cons_zero, List.set_cons_succ])
                refine wpAnyH_take (i := 12) (oi := { dst := some 183, op := Go.Op.move (Go.Operand.tmp 24), type := 3, pos := "law.go:170", after := #[], guard := none }) (v := ?_) rfl (by kernel_rfl) (by kernel_rfl) (by kernel_rfl) (fun _ _ _ h => h) (Or.inl ⟨by rfl, ?_⟩) (by assumption) ?_
                rotate_left
                · intro wS hSw
                  (try dsimp only at hSw)
                  go_simp
                  (try with_reducible rfl)
                (try simp only [Act.put, List.setIfInBounds_toArray, List.set_cons_zero, List.set_cons_succ])
                refine wpAnyH_take (i := 13) (oi := { dst := some 184, op := Go.Op.indexAddr 29 (Go.Operand.tmp 182) (Go.Operand.tmp 183), type := 0, pos := "law.go:170", after := #[{ on := 11, ground := Go.Ground.data }, { on := 12, ground := Go.Ground.data }], guard := none }) (v := ?_) rfl (by kernel_rfl) (by kernel_rfl) (by kernel_rfl) (fun _ _ _ h => h) (Or.inl ⟨by rfl, ?_⟩) (by assumption) ?_
                rotate_left
                · intro wS hSw
                  (try dsimp only at hSw)
                  go_simp
                  (try with_reducible rfl)
                (try simp only [Act.put, List.setIfInBounds_toArray, List.set_cons_zero, List.set_cons_succ])
                refine wpAnyH_take (i := 14) (oi := { dst := some 185, op := Go.Op.fieldAddr 52 (Go.Operand.tmp 184) 2, type := 0, pos := "law.go:170", after := #[{ on := 13, ground := Go.Ground.data }], guard := none }) (v := ?_) rfl (by kernel_rfl) (by kernel_rfl) (by kernel_rfl) (fun _ _ _ h => h) (Or.inl ⟨by rfl, ?_⟩) (by assumption) ?_
                rotate_left
                · intro wS hSw
                  (try dsimp only at hSw)
                  go_simp
                  (try with_reducible rfl)
                (try simp only [Act.put, List.setIfInBounds_toArray, List.set_cons_zero, List.set_cons_succ])
                refine wpAnyH_take (i := 15) (oi := { dst := some 186, op := Go.Op.load 22 (Go.Operand.tmp 185), type := 22, pos := "law.go:170", after := #[{ on := 14, ground := Go.Ground.data }], guard := none }) (v := ?_) rfl (by kernel_rfl) (by kernel_rfl) (by kernel_rfl) (fun _ _ _ h => h) (Or.inl ⟨by rfl, ?_⟩) (by assumption) ?_
                rotate_left
                · intro wS hSw
                  ((have c9 := HX2.out _ hSw); go_simp; (try with_reducible rfl))
                (try simp only [Act.put, List.setIfInBounds_toArray, List.set_cons_zero, List.set_cons_succ])
                refine wpAnyH_take (i := 16) (oi := { dst := some 187, op := Go.Op.convert 22 9 (Go.Operand.tmp 186), type := 9, pos := "law.go:170", after := #[{ on := 15, ground := Go.Ground.data }], guard := none }) (v := ?_) rfl (by kernel_rfl) (by kernel_rfl) (by kernel_rfl) (fun _ _ _ h => h) (Or.inl ⟨by rfl, ?_⟩) (by assumption) ?_
                rotate_left
                · intro wS hSw
                  ((have c9 := HC2.out _ hSw); go_simp; (try with_reducible rfl))
                (try simp only [Act.put, List.setIfInBounds_toArray, List.set_cons_zero, List.set_cons_succ])
                refine wpAnyH_take (i := 17) (oi := { dst := some 188, op := Go.Op.binOp Go.BinOp.neq 9 (Go.Operand.tmp 181) (Go.Operand.tmp 187) 9, type := 4, pos := "law.go:170", after := #[{ on := 10, ground := Go.Ground.data }, { on := 16, ground := Go.Ground.data }], guard := none }) (v := ?_) rfl (by kernel_rfl) (by kernel_rfl) (by kernel_rfl) (fun _ _ _ h => h) (Or.inl ⟨by rfl, ?_⟩) (by assumption) ?_
                rotate_left
                · intro wS hSw
                  (try dsimp only at hSw)
                  go_simp
                  (try with_reducible rfl)
                (try simp only [Act.put, List.setIfInBounds_toArray, List.set_cons_zero, List.set_cons_succ])
                refine wpAnyH_done (by kernel_rfl) ?_ _
                have HB9 := Lib.hid hP_0
                clear hP_0
                go_wp2_with fail
                go_roundw
                case rel => exact ⟨i + 1, by omega, by go_num, HB9.out⟩
                case measure => simp [intOf]; omega
              · have HBE := Lib.hid ((HB4.out.trans (HO7.out.blo HN5.out.2.2.2.2 HB4.out.size)).trans (HB8.out.mono (Nat.le_trans HB4.out.size HO7.out.size)))
                have HSU := Lib.hid (sure03 wr (HG.out.below HBE.out HG.out.2))
                go_wp2_with fail
                refine HSU.out.mono ?_
                rintro e w9 ⟨rfl, hb⟩
                have HBF := Lib.hid (HBE.out.trans (hb.mono HBE.out.size))
                clear hb
                go_wp2_with fail
                go_ret
                exact ⟨rfl, HBF.out⟩
end Go.Proofs.YtmhofofidmbgfaaDoor
