/- HkdfKeys walked. -/
import Derived.Test.YtbblibddikdakaaDoorEx5
import Derived.Test.YtbblibddikdakaaDoorRx2
namespace Go.Proofs.YtbblibddikdakaaDoor
set_option linter.unusedVariables false
set_option linter.unusedSimpArgs false
open Go.RowKit

/-- A row of bytes that reads as a string. -/
def CV (w : World) (o : Option Addr) (m : Nat) (S : ByteArray) : Prop := ∃ F, Bytes w o m F ∧ (o = none → m = 0) ∧ strF m F = S
theorem CV.later {w w' : World} {o : Option Addr} {m : Nat} {S : ByteArray} (h : CV w o m S) (hb : Below w.heap.size w w') : CV w' o m S := by
  obtain ⟨F, h1, h2, h3⟩ := h; exact ⟨F, h1.later hb, h2, h3⟩
theorem CV.conv {w : World} {o : Option Addr} {m c : Nat} {S : ByteArray} (h : CV w o m S) : (convert 25 9 (.slice o m c)).run Tryd.prog w = .ok (.string S) w := by
  obtain ⟨F, h1, h2, rfl⟩ := h; exact conv_any h1 h2
theorem CV.none (w : World) : CV w none 0 ⟨#[]⟩ := ⟨fun _ => 0, fun k hk => absurd hk (Nat.not_lt_zero _), fun _ => rfl, rfl⟩
/-- An error and its number. -/
def Er (v : Value) (k : Nat) : Prop := (v = .nilIface ∧ k = 0) ∨ (v = .iface 67 (.int .i64 1) ∧ k = 1)
theorem num_any (v : Value) (k : Nat) (w : World) (h : Er v k) (hh : Handle w) : Calls Tryd.prog 33 #[v] w fun e w' => e = .returned (.int .i64 (k : Nat)) ∧ Below w.heap.size w w' := by
  rcases h with ⟨rfl, rfl⟩ | ⟨rfl, rfl⟩
  · exact num_nil w
  · exact num_err 1 w hh
theorem expand_pair (oa oi : Option Addr) (n cn p ci : Nat) (K I : Nat → Nat) (z : Int) (hnc : n ≤ cn) (hno : oa = none → n = 0) (hn : n < 800000000000) (hpc : p ≤ ci) (hpo : oi = none → p = 0) (hp : p < 700000000000) (h1 : -9223372036854775808 ≤ z) (h2 : z ≤ 9223372036854775807) :
    ∃ (S : ByteArray) (k : Nat), (∀ w, Bytes w oa n K → Bytes w oi p I → GV w → Calls Tryd.prog 27 #[.slice oa n cn, .slice oi p ci, .int .i64 z] w fun e w' => ∃ o m c v, e = .returned (.tuple #[.slice o m c, v]) ∧ CV w' o m S ∧ Er v k ∧ Below w.heap.size w w') ∧
      (∀ w, Bytes w oa n K → Bytes w oi p I → Calls Tryd.prog 29 #[.slice oa n cn, .slice oi p ci, .int .i64 z] w fun e w' => ∃ o m c, e = .returned (.tuple #[.slice o m c, .int .i64 (k : Nat)]) ∧ CV w' o m S ∧ Below w.heap.size w w') := by
  by_cases h : z < 0 ∨ 8160 < z
  · refine ⟨⟨#[]⟩, 1, fun w _ _ _ => ?_, fun w _ _ => ?_⟩
    · refine (expand_bad _ _ z w h1 h2 h).mono ?_
      rintro e w' ⟨rfl, rfl⟩
      exact ⟨none, 0, 0, _, rfl, CV.none _, .inr ⟨rfl, rfl⟩, Below.refl _ _⟩
    · refine (rexpand_bad _ _ z w h1 h2 h).mono ?_
      rintro e w' ⟨rfl, rfl⟩
      exact ⟨none, 0, 0, rfl, CV.none _, Below.refl _ _⟩
  · obtain ⟨k, rfl⟩ : ∃ k : Nat, z = (k : Int) := ⟨z.toNat, by omega⟩
    refine ⟨strF k (exF n K p I), 0, fun w ha hb hg => ?_, fun w ha hb => ?_⟩
    · refine (expand_any oa oi n cn p ci K I k w ha hnc hno hn hb hpc hp (by omega) hg).mono ?_
      rintro e w' ⟨o, rfl, h3, h4, h5⟩
      exact ⟨o, k, k, _, rfl, ⟨_, h3, h4, rfl⟩, .inl ⟨rfl, rfl⟩, h5⟩
    · refine (rexpand_any oa oi n cn p ci K I k w ha hno hn hb hpo hp (by omega)).mono ?_
      rintro e w' ⟨o, c, rfl, h3, h4, h5⟩
      exact ⟨o, k, c, rfl, ⟨_, h3, h4, rfl⟩, h5⟩
theorem key_pair (oa : Option Addr) (n cn : Nat) (K : Nat → Nat) (s : ByteArray) (x : Nat) (hnc : n ≤ cn) (hn : n ≤ 9223372036854775807) (hs : s.size ≤ 9223372036854775807) (hx : x < 4294967296) :
    ∃ (S : ByteArray) (k : Nat), (∀ w, Bytes w oa n K → GV w → Calls Tryd.prog 30 #[.slice oa n cn, .string s, .int .u32 (x : Nat)] w fun e w' => ∃ o m c v, e = .returned (.tuple #[.slice o m c, v]) ∧ CV w' o m S ∧ Er v k ∧ Below w.heap.size w w') ∧
      (∀ w, Bytes w oa n K → Calls Tryd.prog 31 #[.slice oa n cn, .string s, .int .u32 (x : Nat)] w fun e w' => ∃ o m c, e = .returned (.tuple #[.slice o m c, .int .i64 (k : Nat)]) ∧ CV w' o m S ∧ Below w.heap.size w w') := by
  by_cases h : n ≠ 32 ∨ s.size < 1 ∨ 32 < s.size
  · refine ⟨⟨#[]⟩, 1, fun w _ _ => ?_, fun w _ => ?_⟩
    · refine (key_bad oa n cn s _ w hn hs h).mono ?_
      rintro e w' ⟨rfl, rfl⟩
      exact ⟨none, 0, 0, _, rfl, CV.none _, .inr ⟨rfl, rfl⟩, Below.refl _ _⟩
    · refine (rkey_bad oa n cn s _ w hn hs h).mono ?_
      rintro e w' ⟨rfl, rfl⟩
      exact ⟨none, 0, 0, rfl, CV.none _, Below.refl _ _⟩
  · obtain rfl : n = 32 := by omega
    refine ⟨strF 32 (exF 32 K (s.size + 5) (kiF s x)), 0, fun w ha hg => ?_, fun w ha => ?_⟩
    · refine (key_any oa cn K s x w ha hnc (by omega) (by omega) hx hg).mono ?_
      rintro e w' ⟨o, rfl, h3, h5⟩
      exact ⟨o, 32, 32, _, rfl, ⟨_, h3, fun e => (by obtain ⟨_, b, off, e2, _⟩ := h3 0 (by decide); rw [e] at e2; cases e2), rfl⟩, .inl ⟨rfl, rfl⟩, h5⟩
    · refine (rkey_any oa cn K s x w ha (by omega) (by omega) hx).mono ?_
      rintro e w' ⟨o, c, rfl, h3, h5⟩
      exact ⟨o, 32, c, rfl, ⟨_, h3, fun e => (by obtain ⟨_, b, off, e2, _⟩ := h3 0 (by decide); rw [e] at e2; cases e2), rfl⟩, h5⟩
theorem step_valueG {ops : Array Oper} {o : Oper} {a : Act} {w : World} {K : Act → World → Prop} {Q : Exit → Act → World → Prop} {E : Prop} {v : Value} (hw : Region.wanted o (yielded ops a.tmps) = true) (he : (execOp a.eval o).run Tryd.prog w = .ok (.value v) w)
    (h : K (a.put o.dst v) w) : if Region.wanted o (yielded ops a.tmps) = true then Oper.wp Tryd.prog o a w K Q else E := by
  rw [if_pos hw]
  unfold Oper.wp
  rw [he]
  exact h
/-- What is kept ahead of the last comparisons. -/
structure HK (w0 : World) (o8 o10 o12 o14 : Option Addr) (m8 m10 m12 m14 g7 : Nat) (S1 S2 S3 : ByteArray) (wr : World) : Prop where
  a : CV wr o8 m8 S1
  b : CV wr o10 m10 S1
  c : CV wr o12 m12 S2
  d : CV wr o14 m14 S2
  e : CV wr (some ⟨g7, 0, none⟩) 32 S3
  o : Below w0.heap.size w0 wr
theorem HK.later {w0 wr w' : World} {o8 o10 o12 o14 : Option Addr} {m8 m10 m12 m14 g7 : Nat} {S1 S2 S3 : ByteArray} (h : HK w0 o8 o10 o12 o14 m8 m10 m12 m14 g7 S1 S2 S3 wr) (hb : Below wr.heap.size wr w') : HK w0 o8 o10 o12 o14 m8 m10 m12 m14 g7 S1 S2 S3 w' :=
  ⟨h.a.later hb, h.b.later hb, h.c.later hb, h.d.later hb, h.e.later hb, h.o.trans (hb.mono h.o.size)⟩
set_option maxRecDepth 100000 in
set_option maxHeartbeats 8000000 in
theorem hkeys_any (oa oi : Option Addr) (n cn p ci : Nat) (K I : Nat → Nat) (z : Int) (w : World) (hb : Bytes w oa n K) (hnc : n ≤ cn) (hno : oa = none → n = 0) (hcn : cn ≤ maxLen) (hb2 : Bytes w oi p I) (hpc : p ≤ ci) (hpo : oi = none → p = 0) (hci : ci ≤ maxLen) (hz1 : -9223372036854775808 ≤ z) (hz2 : z ≤ 9223372036854775807) (hg : GH w) :
    Calls Tryd.prog 9 #[.slice oa n cn, .slice oi p ci, .int .i64 z] w fun e w' => e = .returned (.bool true) ∧ Below w.heap.size w w' := by
  unfold maxLen at hcn hci
  have HG := Lib.hid hg
  have HKB : Hid (∀ w', Below w.heap.size w w' → Bytes w' oa n K) := Lib.hid fun w' h => hb.later h
  have HIB : Hid (∀ w', Below w.heap.size w w' → Bytes w' oi p I) := Lib.hid fun w' h => hb2.later h
  have HNC : Hid (n ≤ cn ∧ p ≤ ci) := Lib.hid ⟨hnc, hpc⟩
  have HNO := Lib.hid hno
  have HPO := Lib.hid hpo
  have hn0 : (n : Int) ≤ 9223372036854775807 := by omega
  have hp0 : (p : Int) ≤ 9223372036854775807 := by omega
  clear hb hb2 hg
  go_enter Tryd.func9, Tryd.ntmps9
  have hcs : (300 : Int) < (n : Int) ∨ (¬ (300 : Int) < (n : Int) ∧ (300 : Int) < (p : Int)) ∨ (¬ (300 : Int) < (n : Int) ∧ ¬ (300 : Int) < (p : Int) ∧ 400 < z ∧ z ≤ 8160) ∨ (¬ (300 : Int) < (n : Int) ∧ ¬ (300 : Int) < (p : Int) ∧ 400 < z ∧ ¬ z ≤ 8160) ∨ (¬ (300 : Int) < (n : Int) ∧ ¬ (300 : Int) < (p : Int) ∧ ¬ 400 < z) := by omega
  rcases hcs with h1 | ⟨h1, h2⟩ | ⟨h1, h2, h3, h4⟩ | ⟨h1, h2, h3, h4⟩ | ⟨h1, h2, h3⟩
  · have h0 : True := trivial
    go_wp2_with fail
    refine (hkdf_sure _ HG.out).mono ?_
    rintro e w5 ⟨rfl, hb5⟩
    have HO := Lib.hid hb5
    clear hb5
    go_wp2_with fail
    go_ret
    exact ⟨rfl, HO.out⟩
  · have h0 : True := trivial
    go_wp2_with fail
    refine (hkdf_sure _ HG.out).mono ?_
    rintro e w5 ⟨rfl, hb5⟩
    have HO := Lib.hid hb5
    clear hb5
    go_wp2_with fail
    go_ret
    exact ⟨rfl, HO.out⟩
  · have h0 : True := trivial
    go_wp2_with fail
    refine (hkdf_sure _ HG.out).mono ?_
    rintro e w5 ⟨rfl, hb5⟩
    have HO := Lib.hid hb5
    clear hb5
    go_wp2_with fail
    go_ret
    exact ⟨rfl, HO.out⟩
  · have h0 : True := trivial
    obtain ⟨M, hM⟩ : ∃ D, hmN n K p I = D := ⟨_, rfl⟩
    obtain ⟨CM, hCM⟩ : ∃ C, (rowC 32 M).toArray = C := ⟨_, rfl⟩
    have HCM := Lib.hid hCM
    have HJ : Hid ((Tryd.prog.info? 27).map (·.size) = some CM.size) := Lib.hid (hCM ▸ info27 _)
    have HJ1 : Hid (CM.all (·.oneCell') = true) := Lib.hid (hCM ▸ one32 _)
    have HML : Hid (∀ i, M i < 256) := Lib.hid fun i => by rw [← hM]; exact hmN_lt _ _ _ _ i
    obtain ⟨S3, hS3⟩ : ∃ S, strF 32 M = S := ⟨_, rfl⟩
    have HS3 := Lib.hid hS3
    obtain ⟨SP, hSP⟩ : ∃ S, strF p I = S := ⟨_, rfl⟩
    have hsz : SP.size = p := by rw [← hSP]; exact strF_size p I
    obtain ⟨x, hx⟩ : ∃ x : Nat, z % 4294967296 = (x : Int) := ⟨(z % 4294967296).toNat, by omega⟩
    have hx1 : IntKind.u32.wrap z = (x : Int) := by rw [IntKind.wrap_u32]; exact hx
    obtain ⟨S1, k1, hE1, hE2⟩ := expand_pair oa oi n cn p ci K I z hnc hno (by omega) hpc hpo (by omega) hz1 hz2
    obtain ⟨S2, k2, hK1, hK2⟩ := key_pair oa n cn K SP x hnc (by omega) (by omega) (by omega)
    have HEX1 := Lib.hid hE1
    have HEX2 := Lib.hid hE2
    have HKY1 := Lib.hid hK1
    have HKY2 := Lib.hid hK2
    have HRX : Hid (Calls Tryd.prog 28 #[.slice oa n cn, .slice oi p ci] w fun e w' => e = .returned (.agg CM) ∧ Below w.heap.size w w') := Lib.hid (by
      have := rextract_any oa oi n cn p ci K I w (HKB.out _ (Below.refl _ w)) hno (by omega) (HIB.out _ (Below.refl _ w)) hpo (by omega)
      rw [hM, hCM] at this; exact this)
    have HPX : Hid (∀ w', Below w.heap.size w w' → Calls Tryd.prog 32 #[.slice oa n cn, .slice oi p ci] w' fun e w'' => ∃ g, e = .returned (.slice (some ⟨g, 0, none⟩) 32 32) ∧ CV w'' (some ⟨g, 0, none⟩) 32 S3 ∧ Below w'.heap.size w' w'') := Lib.hid fun w' h => by
      refine (extract_any oa oi n cn p ci K I w' (HKB.out _ h) hnc hno (by omega) (HIB.out _ h) hpc (by omega) (HG.out.later h).1).mono ?_
      rintro e w'' ⟨g, h1, h2, h3⟩
      rw [hM] at h2
      exact ⟨g, h1, ⟨M, h2, fun e => (by cases e), hS3⟩, h3⟩
    have HSP : Hid (∀ w', Below w.heap.size w w' → (convert 25 9 (.slice oi p ci)).run Tryd.prog w' = .ok (.string SP) w') := Lib.hid fun w' h => by rw [← hSP]; exact conv_any (HIB.out _ h) hpo
    have hz := zero32_run
    clear hM hCM hS3 hSP hsz hE1 hE2 hK1 hK2 hnc hno hpc hpo hz1 hz2
    go_wp2_with fail
    refine HRX.out.mono ?_
    rintro e w1 ⟨rfl, hb1⟩
    obtain ⟨g1, hg1⟩ : ∃ g, w1.heap.size = g := ⟨_, rfl⟩
    obtain ⟨wc, hwc⟩ : ∃ q, w1.alloc (.cells zero32 27) = q := ⟨_, rfl⟩
    obtain ⟨w2, hw2⟩ : ∃ q, wc.setCells g1 0 CM.toList = q := ⟨_, rfl⟩
    have hl := lay32 w1 M HCM.out
    rw [hg1, hwc, hw2] at hl
    have HTH := Lib.hid hl.2.2
    have H2 : Hid (CV w2 (some ⟨g1, 0, none⟩) 32 S3 ∧ Below w.heap.size w w2) := Lib.hid ⟨⟨M, RB.bytes hl.1 fun i _ => HML.out i, fun e => (by cases e), HS3.out⟩, hb1.trans (hl.2.1.mono (by rw [← hg1]; exact hb1.size))⟩
    clear hl hb1 HRX
    go_wp2_with (first
      | (refine wpList_store_mid rfl 27 (.tmp 7) (.tmp 35) rfl g1 0 CM rfl rfl HTH.out HJ.out HJ1.out ?_; rw [hw2]))
    clear hw2 hwc hg1 HTH HJ HJ1 HCM HML hz
    refine (HEX1.out w2 (HKB.out _ H2.out.2) (HIB.out _ H2.out.2) (HG.out.later H2.out.2).1).mono ?_
    rintro e w3 ⟨o8, m8, c8, v9, rfl, ha3, hr3, hb3⟩
    have HV9 := Lib.hid hr3
    have H3 : Hid (CV w3 (some ⟨g1, 0, none⟩) 32 S3 ∧ CV w3 o8 m8 S1 ∧ Below w.heap.size w w3) := Lib.hid ⟨H2.out.1.later hb3, ha3, H2.out.2.trans (hb3.mono H2.out.2.size)⟩
    clear ha3 hr3 hb3 H2 HEX1
    go_wp2_with fail
    refine (HEX2.out w3 (HKB.out _ H3.out.2.2) (HIB.out _ H3.out.2.2)).mono ?_
    rintro e w4 ⟨o10, m10, c10, rfl, ha4, hb4⟩
    have H4 : Hid (CV w4 (some ⟨g1, 0, none⟩) 32 S3 ∧ CV w4 o8 m8 S1 ∧ CV w4 o10 m10 S1 ∧ Below w.heap.size w w4) := Lib.hid ⟨H3.out.1.later hb4, H3.out.2.1.later hb4, ha4, H3.out.2.2.trans (hb4.mono H3.out.2.2.size)⟩
    clear ha4 hb4 H3 HEX2
    go_wp2_with (first | (refine wpList_value rfl (exec_convO (x := .tmp 52) rfl rfl (HSP.out _ H4.out.2.2.2)) ?_))
    refine (HKY1.out w4 (HKB.out _ H4.out.2.2.2) (HG.out.later H4.out.2.2.2).1).mono ?_
    rintro e w5 ⟨o12, m12, c12, v13, rfl, ha5, hr5, hb5⟩
    have HV13 := Lib.hid hr5
    have H5 : Hid (CV w5 (some ⟨g1, 0, none⟩) 32 S3 ∧ CV w5 o8 m8 S1 ∧ CV w5 o10 m10 S1 ∧ CV w5 o12 m12 S2 ∧ Below w.heap.size w w5) := Lib.hid ⟨H4.out.1.later hb5, H4.out.2.1.later hb5, H4.out.2.2.1.later hb5, ha5, H4.out.2.2.2.trans (hb5.mono H4.out.2.2.2.size)⟩
    clear ha5 hr5 hb5 H4 HKY1
    go_wp2_with (first | (refine wpList_value rfl (exec_convO (x := .tmp 61) rfl rfl (HSP.out _ H5.out.2.2.2.2)) ?_))
    refine (HKY2.out w5 (HKB.out _ H5.out.2.2.2.2)).mono ?_
    rintro e w6 ⟨o14, m14, c14, rfl, ha6, hb6⟩
    have H6 : Hid (HK w o8 o10 o12 o14 m8 m10 m12 m14 g1 S1 S2 S3 w6) := Lib.hid (by
      obtain ⟨a1, a2, a3, a4, a5⟩ := H5.out
      exact ⟨a2.later hb6, a3.later hb6, a4.later hb6, ha6, a1.later hb6, a5.trans (hb6.mono a5.size)⟩)
    clear ha6 hb6 H5 HKY2 HSP hx hx1
    go_wp2_with fail
    have hS_0 := H6.out.later (Below.refl _ w6).drew
    clear H6
    refine wp_region_held_drew (S := (HK w o8 o10 o12 o14 m8 m10 m12 m14 g1 S1 S2 S3)) (by kernel_rfl) ?_ (fun hHeld => ?_)
    · (try dsimp only)
      first | assumption
    generalize w6.drew = W0 at *
    refine wpAnyH_take (i := 0) (oi := { dst := some 68, op := Go.Op.move (Go.Operand.tmp 0), type := 25, pos := "law.go:42", after := #[], guard := none }) (v := ?_) rfl (by kernel_rfl) (by kernel_rfl) (by kernel_rfl) (fun _ _ _ h => h) (Or.inl ⟨by rfl, ?_⟩) (by assumption) ?_
    rotate_left
    · intro wS hSw
      (try dsimp only at hSw)
      go_simp
      (try with_reducible rfl)
    (try simp only [Act.put, List.setIfInBounds_toArray, List.set_cons_zero, List.set_cons_succ])
    refine wpAnyH_take (i := 1) (oi := { dst := some 69, op := Go.Op.move (Go.Operand.tmp 1), type := 25, pos := "law.go:42", after := #[], guard := none }) (v := ?_) rfl (by kernel_rfl) (by kernel_rfl) (by kernel_rfl) (fun _ _ _ h => h) (Or.inl ⟨by rfl, ?_⟩) (by assumption) ?_
    rotate_left
    · intro wS hSw
      (try dsimp only at hSw)
      go_simp
      (try with_reducible rfl)
    (try simp only [Act.put, List.setIfInBounds_toArray, List.set_cons_zero, List.set_cons_succ])
    refine wpAnyH_take (i := 4) (oi := { dst := some 72, op := Go.Op.slice 27 (Go.Operand.tmp 7) none none none, type := 25, pos := "law.go:42", after := #[], guard := none }) (v := ?_) rfl (by kernel_rfl) (by kernel_rfl) (by kernel_rfl) (fun _ _ _ h => h) (Or.inl ⟨by rfl, ?_⟩) (by assumption) ?_
    rotate_left
    · intro wS hSw
      (try dsimp only at hSw)
      go_simp
      (try with_reducible rfl)
    (try simp only [Act.put, List.setIfInBounds_toArray, List.set_cons_zero, List.set_cons_succ])
    refine wpAnyH_take (i := 5) (oi := { dst := some 73, op := Go.Op.convert 25 9 (Go.Operand.tmp 72), type := 9, pos := "law.go:42", after := #[{ on := 4, ground := Go.Ground.data }], guard := none }) (v := ?_) rfl (by kernel_rfl) (by kernel_rfl) (by kernel_rfl) (fun _ _ _ h => h) (Or.inl ⟨by rfl, ?_⟩) (by assumption) ?_
    rotate_left
    · intro wS hSw
      refine exec_convO (x := .tmp 72) (cap := 32) ?_ ?_ (hSw.e.conv (c := 32)) <;> rfl
    (try simp only [Act.put, List.setIfInBounds_toArray, List.set_cons_zero, List.set_cons_succ])
    refine wpAnyH_ready (rs := [2]) (by kernel_rfl) (by simp) ?_
    refine AllReadyH.cons (o := { dst := some 70, op := Go.Op.call { callee := Go.Callee.value (Go.Operand.func 32), args := #[Go.Operand.tmp 68, Go.Operand.tmp 69], argTypes := #[25, 25] }, type := 25, pos := "law.go:42", after := #[{ on := 0, ground := Go.Ground.data }, { on := 1, ground := Go.Ground.data }], guard := none }) rfl (fun K hK => ?_) AllReadyH.nil
    go_simp
    (refine (HPX.out _ hS_0.o).mono ?_; rintro e v_1 ⟨g9, rfl, hX, hb_1⟩; have hS_1 := hS_0.later hb_1; clear hb_1 hS_0; skip)
    (try go_wp2_with fail)
    refine hK.out _ _ ?_ (fun hHeld => ?_)
    · (try dsimp only)
      first | assumption
    clear hK K
    (try simp only [Act.put, List.setIfInBounds_toArray, List.set_cons_zero, List.set_cons_succ])
    refine wpAnyH_ready (rs := [3]) (by kernel_rfl) (by simp) ?_
    refine AllReadyH.cons (o := { dst := some 71, op := Go.Op.convert 25 9 (Go.Operand.tmp 70), type := 9, pos := "law.go:42", after := #[{ on := 2, ground := Go.Ground.data }], guard := none }) rfl (fun K hK => ?_) AllReadyH.nil
    (refine step_valueG (by rfl) (exec_convO (x := .tmp 70) rfl rfl hX.conv) ?_; clear hX; skip)
    refine hK.out _ _ ?_ (fun hHeld => ?_)
    · (try dsimp only)
      first | assumption
    clear hK K
    (try simp only [Act.put, List.setIfInBounds_toArray, List.set_cons_zero, List.set_cons_succ])
    refine wpAnyH_take (i := 6) (oi := { dst := some 74, op := Go.Op.binOp Go.BinOp.eql 9 (Go.Operand.tmp 71) (Go.Operand.tmp 73) 9, type := 4, pos := "law.go:42", after := #[{ on := 3, ground := Go.Ground.data }, { on := 5, ground := Go.Ground.data }], guard := none }) (v := ?_) rfl (by kernel_rfl) (by kernel_rfl) (by kernel_rfl) (fun _ _ _ h => h) (Or.inl ⟨by rfl, ?_⟩) (by assumption) ?_
    rotate_left
    · intro wS hSw
      (try dsimp only at hSw)
      go_simp
      (try with_reducible rfl)
    (try simp only [Act.put, List.setIfInBounds_toArray, List.set_cons_zero, List.set_cons_succ])
    refine wpAnyH_take (i := 7) (oi := { dst := some 75, op := Go.Op.move (Go.Operand.tmp 74), type := 4, pos := "law.go:42", after := #[{ on := 6, ground := Go.Ground.data }, { on := 2, ground := Go.Ground.chain }], guard := none }) (v := ?_) rfl (by kernel_rfl) (by kernel_rfl) (by kernel_rfl) (fun _ _ _ h => h) (Or.inl ⟨by rfl, ?_⟩) (by assumption) ?_
    rotate_left
    · intro wS hSw
      (try dsimp only at hSw)
      go_simp
      (try with_reducible rfl)
    (try simp only [Act.put, List.setIfInBounds_toArray, List.set_cons_zero, List.set_cons_succ])
    refine wpAnyH_take (i := 8) (oi := { dst := some 76, op := Go.Op.move (Go.Operand.tmp 8), type := 25, pos := "law.go:42", after := #[{ on := 7, ground := Go.Ground.guard }], guard := some (7, true) }) (v := ?_) rfl (by kernel_rfl) (by kernel_rfl) (by kernel_rfl) (fun _ _ _ h => h) (Or.inl ⟨by rfl, ?_⟩) (by assumption) ?_
    rotate_left
    · intro wS hSw
      (try dsimp only at hSw)
      go_simp
      (try with_reducible rfl)
    (try simp only [Act.put, List.setIfInBounds_toArray, List.set_cons_zero, List.set_cons_succ])
    refine wpAnyH_take (i := 9) (oi := { dst := some 77, op := Go.Op.convert 25 9 (Go.Operand.tmp 76), type := 9, pos := "law.go:42", after := #[{ on := 8, ground := Go.Ground.data }, { on := 7, ground := Go.Ground.guard }], guard := some (7, true) }) (v := ?_) rfl (by kernel_rfl) (by kernel_rfl) (by kernel_rfl) (fun _ _ _ h => h) (Or.inl ⟨by rfl, ?_⟩) (by assumption) ?_
    rotate_left
    · intro wS hSw
      refine exec_convO (x := .tmp 76) (cap := c8) ?_ ?_ (hSw.a.conv (c := c8)) <;> rfl
    (try simp only [Act.put, List.setIfInBounds_toArray, List.set_cons_zero, List.set_cons_succ])
    refine wpAnyH_take (i := 10) (oi := { dst := some 78, op := Go.Op.move (Go.Operand.tmp 10), type := 25, pos := "law.go:42", after := #[{ on := 7, ground := Go.Ground.guard }], guard := some (7, true) }) (v := ?_) rfl (by kernel_rfl) (by kernel_rfl) (by kernel_rfl) (fun _ _ _ h => h) (Or.inl ⟨by rfl, ?_⟩) (by assumption) ?_
    rotate_left
    · intro wS hSw
      (try dsimp only at hSw)
      go_simp
      (try with_reducible rfl)
    (try simp only [Act.put, List.setIfInBounds_toArray, List.set_cons_zero, List.set_cons_succ])
    refine wpAnyH_take (i := 11) (oi := { dst := some 79, op := Go.Op.convert 25 9 (Go.Operand.tmp 78), type := 9, pos := "law.go:42", after := #[{ on := 10, ground := Go.Ground.data }, { on := 7, ground := Go.Ground.guard }], guard := some (7, true) }) (v := ?_) rfl (by kernel_rfl) (by kernel_rfl) (by kernel_rfl) (fun _ _ _ h => h) (Or.inl ⟨by rfl, ?_⟩) (by assumption) ?_
    rotate_left
    · intro wS hSw
      refine exec_convO (x := .tmp 78) (cap := c10) ?_ ?_ (hSw.b.conv (c := c10)) <;> rfl
    (try simp only [Act.put, List.setIfInBounds_toArray, List.set_cons_zero, List.set_cons_succ])
    refine wpAnyH_take (i := 12) (oi := { dst := some 80, op := Go.Op.binOp Go.BinOp.eql 9 (Go.Operand.tmp 77) (Go.Operand.tmp 79) 9, type := 4, pos := "law.go:42", after := #[{ on := 9, ground := Go.Ground.data }, { on := 11, ground := Go.Ground.data }, { on := 7, ground := Go.Ground.guard }], guard := some (7, true) }) (v := ?_) rfl (by kernel_rfl) (by kernel_rfl) (by kernel_rfl) (fun _ _ _ h => h) (Or.inl ⟨by rfl, ?_⟩) (by assumption) ?_
    rotate_left
    · intro wS hSw
      (try dsimp only at hSw)
      go_simp
      (try with_reducible rfl)
    (try simp only [Act.put, List.setIfInBounds_toArray, List.set_cons_zero, List.set_cons_succ])
    refine wpAnyH_take (i := 13) (oi := { dst := some 81, op := Go.Op.pick (Go.Operand.tmp 75) (Go.Operand.tmp 80) (Go.Operand.const (Go.Value.bool false)), type := 4, pos := "law.go:42", after := #[{ on := 7, ground := Go.Ground.data }, { on := 12, ground := Go.Ground.data }], guard := none }) (v := ?_) rfl (by kernel_rfl) (by kernel_rfl) (by kernel_rfl) (fun _ _ _ h => h) (Or.inl ⟨by rfl, ?_⟩) (by assumption) ?_
    rotate_left
    · intro wS hSw
      (try dsimp only at hSw)
      go_simp
      (try with_reducible rfl)
    (try simp only [Act.put, List.setIfInBounds_toArray, List.set_cons_zero, List.set_cons_succ])
    refine wpAnyH_take (i := 14) (oi := { dst := some 82, op := Go.Op.move (Go.Operand.tmp 81), type := 4, pos := "law.go:42", after := #[{ on := 13, ground := Go.Ground.data }, { on := 7, ground := Go.Ground.chain }], guard := none }) (v := ?_) rfl (by kernel_rfl) (by kernel_rfl) (by kernel_rfl) (fun _ _ _ h => h) (Or.inl ⟨by rfl, ?_⟩) (by assumption) ?_
    rotate_left
    · intro wS hSw
      (try dsimp only at hSw)
      go_simp
      (try with_reducible rfl)
    (try simp only [Act.put, List.setIfInBounds_toArray, List.set_cons_zero, List.set_cons_succ])
    refine wpAnyH_take (i := 15) (oi := { dst := some 83, op := Go.Op.move (Go.Operand.tmp 9), type := 46, pos := "law.go:42", after := #[{ on := 14, ground := Go.Ground.guard }], guard := some (14, true) }) (v := ?_) rfl (by kernel_rfl) (by kernel_rfl) (by kernel_rfl) (fun _ _ _ h => h) (Or.inl ⟨by rfl, ?_⟩) (by assumption) ?_
    rotate_left
    · intro wS hSw
      (try dsimp only at hSw)
      go_simp
      (try with_reducible rfl)
    (try simp only [Act.put, List.setIfInBounds_toArray, List.set_cons_zero, List.set_cons_succ])
    refine wpAnyH_take (i := 17) (oi := { dst := some 85, op := Go.Op.move (Go.Operand.tmp 11), type := 3, pos := "law.go:42", after := #[{ on := 14, ground := Go.Ground.guard }], guard := some (14, true) }) (v := ?_) rfl (by kernel_rfl) (by kernel_rfl) (by kernel_rfl) (fun _ _ _ h => h) (Or.inl ⟨by rfl, ?_⟩) (by assumption) ?_
    rotate_left
    · intro wS hSw
      (try dsimp only at hSw)
      go_simp
      (try with_reducible rfl)
    (try simp only [Act.put, List.setIfInBounds_toArray, List.set_cons_zero, List.set_cons_succ])
    refine wpAnyH_ready (rs := [16]) (by kernel_rfl) (by simp) ?_
    refine AllReadyH.cons (o := { dst := some 84, op := Go.Op.call { callee := Go.Callee.value (Go.Operand.func 33), args := #[Go.Operand.tmp 83], argTypes := #[46] }, type := 3, pos := "law.go:42", after := #[{ on := 15, ground := Go.Ground.data }, { on := 14, ground := Go.Ground.chain }, { on := 14, ground := Go.Ground.guard }], guard := some (14, true) }) rfl (fun K hK => ?_) AllReadyH.nil
    go_simp
    (refine (num_any v9 k1 _ HV9.out (HG.out.later hS_1.o).2).mono ?_; rintro e v_2 ⟨rfl, hb_2⟩; have hS_2 := hS_1.later hb_2; clear hb_2 hS_1; skip)
    (try go_wp2_with fail)
    refine hK.out _ _ ?_ (fun hHeld => ?_)
    · (try dsimp only)
      first | assumption
    clear hK K
    (try simp only [Act.put, List.setIfInBounds_toArray, List.set_cons_zero, List.set_cons_succ])
    refine wpAnyH_take (i := 18) (oi := { dst := some 86, op := Go.Op.binOp Go.BinOp.eql 3 (Go.Operand.tmp 84) (Go.Operand.tmp 85) 3, type := 4, pos := "law.go:42", after := #[{ on := 16, ground := Go.Ground.data }, { on := 17, ground := Go.Ground.data }, { on := 14, ground := Go.Ground.guard }], guard := some (14, true) }) (v := ?_) rfl (by kernel_rfl) (by kernel_rfl) (by kernel_rfl) (fun _ _ _ h => h) (Or.inl ⟨by rfl, ?_⟩) (by assumption) ?_
    rotate_left
    · intro wS hSw
      (try dsimp only at hSw)
      go_simp
      (try with_reducible rfl)
    (try simp only [Act.put, List.setIfInBounds_toArray, List.set_cons_zero, List.set_cons_succ])
    refine wpAnyH_take (i := 19) (oi := { dst := some 87, op := Go.Op.pick (Go.Operand.tmp 82) (Go.Operand.tmp 86) (Go.Operand.const (Go.Value.bool false)), type := 4, pos := "law.go:42", after := #[{ on := 14, ground := Go.Ground.data }, { on := 18, ground := Go.Ground.data }], guard := none }) (v := ?_) rfl (by kernel_rfl) (by kernel_rfl) (by kernel_rfl) (fun _ _ _ h => h) (Or.inl ⟨by rfl, ?_⟩) (by assumption) ?_
    rotate_left
    · intro wS hSw
      (try dsimp only at hSw)
      go_simp
      (try with_reducible rfl)
    (try simp only [Act.put, List.setIfInBounds_toArray, List.set_cons_zero, List.set_cons_succ])
    refine wpAnyH_take (i := 20) (oi := { dst := some 88, op := Go.Op.move (Go.Operand.tmp 87), type := 4, pos := "law.go:42", after := #[{ on := 19, ground := Go.Ground.data }, { on := 16, ground := Go.Ground.chain }], guard := none }) (v := ?_) rfl (by kernel_rfl) (by kernel_rfl) (by kernel_rfl) (fun _ _ _ h => h) (Or.inl ⟨by rfl, ?_⟩) (by assumption) ?_
    rotate_left
    · intro wS hSw
      (try dsimp only at hSw)
      go_simp
      (try with_reducible rfl)
    (try simp only [Act.put, List.setIfInBounds_toArray, List.set_cons_zero, List.set_cons_succ])
    refine wpAnyH_take (i := 21) (oi := { dst := some 89, op := Go.Op.move (Go.Operand.tmp 12), type := 25, pos := "law.go:42", after := #[{ on := 20, ground := Go.Ground.guard }], guard := some (20, true) }) (v := ?_) rfl (by kernel_rfl) (by kernel_rfl) (by kernel_rfl) (fun _ _ _ h => h) (Or.inl ⟨by rfl, ?_⟩) (by assumption) ?_
    rotate_left
    · intro wS hSw
      (try dsimp only at hSw)
      go_simp
      (try with_reducible rfl)
    (try simp only [Act.put, List.setIfInBounds_toArray, List.set_cons_zero, List.set_cons_succ])
    refine wpAnyH_take (i := 22) (oi := { dst := some 90, op := Go.Op.convert 25 9 (Go.Operand.tmp 89), type := 9, pos := "law.go:42", after := #[{ on := 21, ground := Go.Ground.data }, { on := 20, ground := Go.Ground.guard }], guard := some (20, true) }) (v := ?_) rfl (by kernel_rfl) (by kernel_rfl) (by kernel_rfl) (fun _ _ _ h => h) (Or.inl ⟨by rfl, ?_⟩) (by assumption) ?_
    rotate_left
    · intro wS hSw
      refine exec_convO (x := .tmp 89) (cap := c12) ?_ ?_ (hSw.c.conv (c := c12)) <;> rfl
    (try simp only [Act.put, List.setIfInBounds_toArray, List.set_cons_zero, List.set_cons_succ])
    refine wpAnyH_take (i := 23) (oi := { dst := some 91, op := Go.Op.move (Go.Operand.tmp 14), type := 25, pos := "law.go:42", after := #[{ on := 20, ground := Go.Ground.guard }], guard := some (20, true) }) (v := ?_) rfl (by kernel_rfl) (by kernel_rfl) (by kernel_rfl) (fun _ _ _ h => h) (Or.inl ⟨by rfl, ?_⟩) (by assumption) ?_
    rotate_left
    · intro wS hSw
      (try dsimp only at hSw)
      go_simp
      (try with_reducible rfl)
    (try simp only [Act.put, List.setIfInBounds_toArray, List.set_cons_zero, List.set_cons_succ])
    refine wpAnyH_take (i := 24) (oi := { dst := some 92, op := Go.Op.convert 25 9 (Go.Operand.tmp 91), type := 9, pos := "law.go:42", after := #[{ on := 23, ground := Go.Ground.data }, { on := 20, ground := Go.Ground.guard }], guard := some (20, true) }) (v := ?_) rfl (by kernel_rfl) (by kernel_rfl) (by kernel_rfl) (fun _ _ _ h => h) (Or.inl ⟨by rfl, ?_⟩) (by assumption) ?_
    rotate_left
    · intro wS hSw
      refine exec_convO (x := .tmp 91) (cap := c14) ?_ ?_ (hSw.d.conv (c := c14)) <;> rfl
    (try simp only [Act.put, List.setIfInBounds_toArray, List.set_cons_zero, List.set_cons_succ])
    refine wpAnyH_take (i := 25) (oi := { dst := some 93, op := Go.Op.binOp Go.BinOp.eql 9 (Go.Operand.tmp 90) (Go.Operand.tmp 92) 9, type := 4, pos := "law.go:42", after := #[{ on := 22, ground := Go.Ground.data }, { on := 24, ground := Go.Ground.data }, { on := 20, ground := Go.Ground.guard }], guard := some (20, true) }) (v := ?_) rfl (by kernel_rfl) (by kernel_rfl) (by kernel_rfl) (fun _ _ _ h => h) (Or.inl ⟨by rfl, ?_⟩) (by assumption) ?_
    rotate_left
    · intro wS hSw
      (try dsimp only at hSw)
      go_simp
      (try with_reducible rfl)
    (try simp only [Act.put, List.setIfInBounds_toArray, List.set_cons_zero, List.set_cons_succ])
    refine wpAnyH_take (i := 26) (oi := { dst := some 94, op := Go.Op.pick (Go.Operand.tmp 88) (Go.Operand.tmp 93) (Go.Operand.const (Go.Value.bool false)), type := 4, pos := "law.go:42", after := #[{ on := 20, ground := Go.Ground.data }, { on := 25, ground := Go.Ground.data }], guard := none }) (v := ?_) rfl (by kernel_rfl) (by kernel_rfl) (by kernel_rfl) (fun _ _ _ h => h) (Or.inl ⟨by rfl, ?_⟩) (by assumption) ?_
    rotate_left
    · intro wS hSw
      (try dsimp only at hSw)
      go_simp
      (try with_reducible rfl)
    (try simp only [Act.put, List.setIfInBounds_toArray, List.set_cons_zero, List.set_cons_succ])
    refine wpAnyH_take (i := 27) (oi := { dst := some 95, op := Go.Op.move (Go.Operand.tmp 94), type := 4, pos := "law.go:42", after := #[{ on := 26, ground := Go.Ground.data }, { on := 20, ground := Go.Ground.chain }], guard := none }) (v := ?_) rfl (by kernel_rfl) (by kernel_rfl) (by kernel_rfl) (fun _ _ _ h => h) (Or.inl ⟨by rfl, ?_⟩) (by assumption) ?_
    rotate_left
    · intro wS hSw
      (try dsimp only at hSw)
      go_simp
      (try with_reducible rfl)
    (try simp only [Act.put, List.setIfInBounds_toArray, List.set_cons_zero, List.set_cons_succ])
    refine wpAnyH_take (i := 28) (oi := { dst := some 96, op := Go.Op.move (Go.Operand.tmp 13), type := 46, pos := "law.go:42", after := #[{ on := 27, ground := Go.Ground.guard }], guard := some (27, true) }) (v := ?_) rfl (by kernel_rfl) (by kernel_rfl) (by kernel_rfl) (fun _ _ _ h => h) (Or.inl ⟨by rfl, ?_⟩) (by assumption) ?_
    rotate_left
    · intro wS hSw
      (try dsimp only at hSw)
      go_simp
      (try with_reducible rfl)
    (try simp only [Act.put, List.setIfInBounds_toArray, List.set_cons_zero, List.set_cons_succ])
    refine wpAnyH_take (i := 30) (oi := { dst := some 98, op := Go.Op.move (Go.Operand.tmp 15), type := 3, pos := "law.go:42", after := #[{ on := 27, ground := Go.Ground.guard }], guard := some (27, true) }) (v := ?_) rfl (by kernel_rfl) (by kernel_rfl) (by kernel_rfl) (fun _ _ _ h => h) (Or.inl ⟨by rfl, ?_⟩) (by assumption) ?_
    rotate_left
    · intro wS hSw
      (try dsimp only at hSw)
      go_simp
      (try with_reducible rfl)
    (try simp only [Act.put, List.setIfInBounds_toArray, List.set_cons_zero, List.set_cons_succ])
    refine wpAnyH_ready (rs := [29]) (by kernel_rfl) (by simp) ?_
    refine AllReadyH.cons (o := { dst := some 97, op := Go.Op.call { callee := Go.Callee.value (Go.Operand.func 33), args := #[Go.Operand.tmp 96], argTypes := #[46] }, type := 3, pos := "law.go:42", after := #[{ on := 28, ground := Go.Ground.data }, { on := 27, ground := Go.Ground.chain }, { on := 27, ground := Go.Ground.guard }], guard := some (27, true) }) rfl (fun K hK => ?_) AllReadyH.nil
    go_simp
    (refine (num_any v13 k2 _ HV13.out (HG.out.later hS_2.o).2).mono ?_; rintro e v_3 ⟨rfl, hb_3⟩; have hS_3 := hS_2.later hb_3; clear hb_3 hS_2; skip)
    (try go_wp2_with fail)
    refine hK.out _ _ ?_ (fun hHeld => ?_)
    · (try dsimp only)
      first | assumption
    clear hK K
    (try simp only [Act.put, List.setIfInBounds_toArray, List.set_cons_zero, List.set_cons_succ])
    refine wpAnyH_take (i := 31) (oi := { dst := some 99, op := Go.Op.binOp Go.BinOp.eql 3 (Go.Operand.tmp 97) (Go.Operand.tmp 98) 3, type := 4, pos := "law.go:42", after := #[{ on := 29, ground := Go.Ground.data }, { on := 30, ground := Go.Ground.data }, { on := 27, ground := Go.Ground.guard }], guard := some (27, true) }) (v := ?_) rfl (by kernel_rfl) (by kernel_rfl) (by kernel_rfl) (fun _ _ _ h => h) (Or.inl ⟨by rfl, ?_⟩) (by assumption) ?_
    rotate_left
    · intro wS hSw
      (try dsimp only at hSw)
      go_simp
      (try with_reducible rfl)
    (try simp only [Act.put, List.setIfInBounds_toArray, List.set_cons_zero, List.set_cons_succ])
    refine wpAnyH_take (i := 32) (oi := { dst := some 100, op := Go.Op.pick (Go.Operand.tmp 95) (Go.Operand.tmp 99) (Go.Operand.const (Go.Value.bool false)), type := 4, pos := "law.go:42", after := #[{ on := 27, ground := Go.Ground.data }, { on := 31, ground := Go.Ground.data }], guard := none }) (v := ?_) rfl (by kernel_rfl) (by kernel_rfl) (by kernel_rfl) (fun _ _ _ h => h) (Or.inl ⟨by rfl, ?_⟩) (by assumption) ?_
    rotate_left
    · intro wS hSw
      (try dsimp only at hSw)
      go_simp
      (try with_reducible rfl)
    (try simp only [Act.put, List.setIfInBounds_toArray, List.set_cons_zero, List.set_cons_succ])
    refine wpAnyH_take (i := 33) (oi := { dst := some 101, op := Go.Op.move (Go.Operand.tmp 100), type := 4, pos := "law.go:42", after := #[{ on := 32, ground := Go.Ground.data }, { on := 29, ground := Go.Ground.chain }], guard := none }) (v := ?_) rfl (by kernel_rfl) (by kernel_rfl) (by kernel_rfl) (fun _ _ _ h => h) (Or.inl ⟨by rfl, ?_⟩) (by assumption) ?_
    rotate_left
    · intro wS hSw
      (try dsimp only at hSw)
      go_simp
      (try with_reducible rfl)
    (try simp only [Act.put, List.setIfInBounds_toArray, List.set_cons_zero, List.set_cons_succ])
    refine wpAnyH_ready (rs := [34]) (by kernel_rfl) (by simp) ?_
    refine AllReadyH.cons (o := { dst := some 102, op := Go.Op.call { callee := Go.Callee.value (Go.Operand.func 26), args := #[], argTypes := #[] }, type := 4, pos := "law.go:42", after := #[{ on := 33, ground := Go.Ground.chain }, { on := 33, ground := Go.Ground.guard }], guard := some (33, true) }) rfl (fun K hK => ?_) AllReadyH.nil
    go_simp
    (refine (hkdf_sure _ (HG.out.later hS_3.o)).mono ?_; rintro e v_4 ⟨rfl, hb_4⟩; have hS_4 := hS_3.later hb_4; clear hb_4 hS_3; skip)
    (try go_wp2_with fail)
    refine hK.out _ _ ?_ (fun hHeld => ?_)
    · (try dsimp only)
      first | assumption
    clear hK K
    (try simp only [Act.put, List.setIfInBounds_toArray, List.set_cons_zero, List.set_cons_succ])
    refine wpAnyH_take (i := 35) (oi := { dst := some 103, op := Go.Op.pick (Go.Operand.tmp 101) (Go.Operand.tmp 102) (Go.Operand.const (Go.Value.bool false)), type := 4, pos := "law.go:42", after := #[{ on := 33, ground := Go.Ground.data }, { on := 34, ground := Go.Ground.data }], guard := none }) (v := ?_) rfl (by kernel_rfl) (by kernel_rfl) (by kernel_rfl) (fun _ _ _ h => h) (Or.inl ⟨by rfl, ?_⟩) (by assumption) ?_
    rotate_left
    · intro wS hSw
      (try dsimp only at hSw)
      go_simp
      (try with_reducible rfl)
    (try simp only [Act.put, List.setIfInBounds_toArray, List.set_cons_zero, List.set_cons_succ])
    refine wpAnyH_take (i := 36) (oi := { dst := some 6, op := Go.Op.assign (Go.Operand.tmp 103), type := 4, pos := "law.go:42", after := #[{ on := 35, ground := Go.Ground.data }, { on := 34, ground := Go.Ground.chain }, { on := 0, ground := Go.Ground.phase }, { on := 1, ground := Go.Ground.phase }, { on := 2, ground := Go.Ground.phase }, { on := 3, ground := Go.Ground.phase }, { on := 4, ground := Go.Ground.phase }, { on := 5, ground := Go.Ground.phase }, { on := 6, ground := Go.Ground.phase }, { on := 7, ground := Go.Ground.phase }, { on := 8, ground := Go.Ground.phase }, { on := 9, ground := Go.Ground.phase }, { on := 10, ground := Go.Ground.phase }, { on := 11, ground := Go.Ground.phase }, { on := 12, ground := Go.Ground.phase }, { on := 13, ground := Go.Ground.phase }, { on := 14, ground := Go.Ground.phase }, { on := 15, ground := Go.Ground.phase }, { on := 16, ground := Go.Ground.phase }, { on := 17, ground := Go.Ground.phase }, { on := 18, ground := Go.Ground.phase }, { on := 19, ground := Go.Ground.phase }, { on := 20, ground := Go.Ground.phase }, { on := 21, ground := Go.Ground.phase }, { on := 22, ground := Go.Ground.phase }, { on := 23, ground := Go.Ground.phase }, { on := 24, ground := Go.Ground.phase }, { on := 25, ground := Go.Ground.phase }, { on := 26, ground := Go.Ground.phase }, { on := 27, ground := Go.Ground.phase }, { on := 28, ground := Go.Ground.phase }, { on := 29, ground := Go.Ground.phase }, { on := 30, ground := Go.Ground.phase }, { on := 31, ground := Go.Ground.phase }, { on := 32, ground := Go.Ground.phase }, { on := 33, ground := Go.Ground.phase }, { on := 34, ground := Go.Ground.phase }, { on := 35, ground := Go.Ground.phase }], guard := none }) (v := ?_) rfl (by kernel_rfl) (by kernel_rfl) (by kernel_rfl) (fun _ _ _ h => h) (Or.inl ⟨by rfl, ?_⟩) (by assumption) ?_
    rotate_left
    · intro wS hSw
      (try dsimp only at hSw)
      go_simp
      (try with_reducible rfl)
    (try simp only [Act.put, List.setIfInBounds_toArray, List.set_cons_zero, List.set_cons_succ])
    refine wpAnyH_done (by kernel_rfl) ?_ _
    have HO := Lib.hid hS_4.o
    clear hS_4
    go_wp2_with fail
    go_ret
    exact ⟨rfl, HO.out⟩
  · have h0 : True := trivial
    obtain ⟨M, hM⟩ : ∃ D, hmN n K p I = D := ⟨_, rfl⟩
    obtain ⟨CM, hCM⟩ : ∃ C, (rowC 32 M).toArray = C := ⟨_, rfl⟩
    have HCM := Lib.hid hCM
    have HJ : Hid ((Tryd.prog.info? 27).map (·.size) = some CM.size) := Lib.hid (hCM ▸ info27 _)
    have HJ1 : Hid (CM.all (·.oneCell') = true) := Lib.hid (hCM ▸ one32 _)
    have HML : Hid (∀ i, M i < 256) := Lib.hid fun i => by rw [← hM]; exact hmN_lt _ _ _ _ i
    obtain ⟨S3, hS3⟩ : ∃ S, strF 32 M = S := ⟨_, rfl⟩
    have HS3 := Lib.hid hS3
    obtain ⟨SP, hSP⟩ : ∃ S, strF p I = S := ⟨_, rfl⟩
    have hsz : SP.size = p := by rw [← hSP]; exact strF_size p I
    obtain ⟨x, hx⟩ : ∃ x : Nat, z % 4294967296 = (x : Int) := ⟨(z % 4294967296).toNat, by omega⟩
    have hx1 : IntKind.u32.wrap z = (x : Int) := by rw [IntKind.wrap_u32]; exact hx
    obtain ⟨S1, k1, hE1, hE2⟩ := expand_pair oa oi n cn p ci K I z hnc hno (by omega) hpc hpo (by omega) hz1 hz2
    obtain ⟨S2, k2, hK1, hK2⟩ := key_pair oa n cn K SP x hnc (by omega) (by omega) (by omega)
    have HEX1 := Lib.hid hE1
    have HEX2 := Lib.hid hE2
    have HKY1 := Lib.hid hK1
    have HKY2 := Lib.hid hK2
    have HRX : Hid (Calls Tryd.prog 28 #[.slice oa n cn, .slice oi p ci] w fun e w' => e = .returned (.agg CM) ∧ Below w.heap.size w w') := Lib.hid (by
      have := rextract_any oa oi n cn p ci K I w (HKB.out _ (Below.refl _ w)) hno (by omega) (HIB.out _ (Below.refl _ w)) hpo (by omega)
      rw [hM, hCM] at this; exact this)
    have HPX : Hid (∀ w', Below w.heap.size w w' → Calls Tryd.prog 32 #[.slice oa n cn, .slice oi p ci] w' fun e w'' => ∃ g, e = .returned (.slice (some ⟨g, 0, none⟩) 32 32) ∧ CV w'' (some ⟨g, 0, none⟩) 32 S3 ∧ Below w'.heap.size w' w'') := Lib.hid fun w' h => by
      refine (extract_any oa oi n cn p ci K I w' (HKB.out _ h) hnc hno (by omega) (HIB.out _ h) hpc (by omega) (HG.out.later h).1).mono ?_
      rintro e w'' ⟨g, h1, h2, h3⟩
      rw [hM] at h2
      exact ⟨g, h1, ⟨M, h2, fun e => (by cases e), hS3⟩, h3⟩
    have HSP : Hid (∀ w', Below w.heap.size w w' → (convert 25 9 (.slice oi p ci)).run Tryd.prog w' = .ok (.string SP) w') := Lib.hid fun w' h => by rw [← hSP]; exact conv_any (HIB.out _ h) hpo
    have hz := zero32_run
    clear hM hCM hS3 hSP hsz hE1 hE2 hK1 hK2 hnc hno hpc hpo hz1 hz2
    go_wp2_with fail
    refine HRX.out.mono ?_
    rintro e w1 ⟨rfl, hb1⟩
    obtain ⟨g1, hg1⟩ : ∃ g, w1.heap.size = g := ⟨_, rfl⟩
    obtain ⟨wc, hwc⟩ : ∃ q, w1.alloc (.cells zero32 27) = q := ⟨_, rfl⟩
    obtain ⟨w2, hw2⟩ : ∃ q, wc.setCells g1 0 CM.toList = q := ⟨_, rfl⟩
    have hl := lay32 w1 M HCM.out
    rw [hg1, hwc, hw2] at hl
    have HTH := Lib.hid hl.2.2
    have H2 : Hid (CV w2 (some ⟨g1, 0, none⟩) 32 S3 ∧ Below w.heap.size w w2) := Lib.hid ⟨⟨M, RB.bytes hl.1 fun i _ => HML.out i, fun e => (by cases e), HS3.out⟩, hb1.trans (hl.2.1.mono (by rw [← hg1]; exact hb1.size))⟩
    clear hl hb1 HRX
    go_wp2_with (first
      | (refine wpList_store_mid rfl 27 (.tmp 7) (.tmp 35) rfl g1 0 CM rfl rfl HTH.out HJ.out HJ1.out ?_; rw [hw2]))
    clear hw2 hwc hg1 HTH HJ HJ1 HCM HML hz
    refine (HEX1.out w2 (HKB.out _ H2.out.2) (HIB.out _ H2.out.2) (HG.out.later H2.out.2).1).mono ?_
    rintro e w3 ⟨o8, m8, c8, v9, rfl, ha3, hr3, hb3⟩
    have HV9 := Lib.hid hr3
    have H3 : Hid (CV w3 (some ⟨g1, 0, none⟩) 32 S3 ∧ CV w3 o8 m8 S1 ∧ Below w.heap.size w w3) := Lib.hid ⟨H2.out.1.later hb3, ha3, H2.out.2.trans (hb3.mono H2.out.2.size)⟩
    clear ha3 hr3 hb3 H2 HEX1
    go_wp2_with fail
    refine (HEX2.out w3 (HKB.out _ H3.out.2.2) (HIB.out _ H3.out.2.2)).mono ?_
    rintro e w4 ⟨o10, m10, c10, rfl, ha4, hb4⟩
    have H4 : Hid (CV w4 (some ⟨g1, 0, none⟩) 32 S3 ∧ CV w4 o8 m8 S1 ∧ CV w4 o10 m10 S1 ∧ Below w.heap.size w w4) := Lib.hid ⟨H3.out.1.later hb4, H3.out.2.1.later hb4, ha4, H3.out.2.2.trans (hb4.mono H3.out.2.2.size)⟩
    clear ha4 hb4 H3 HEX2
    go_wp2_with (first | (refine wpList_value rfl (exec_convO (x := .tmp 52) rfl rfl (HSP.out _ H4.out.2.2.2)) ?_))
    refine (HKY1.out w4 (HKB.out _ H4.out.2.2.2) (HG.out.later H4.out.2.2.2).1).mono ?_
    rintro e w5 ⟨o12, m12, c12, v13, rfl, ha5, hr5, hb5⟩
    have HV13 := Lib.hid hr5
    have H5 : Hid (CV w5 (some ⟨g1, 0, none⟩) 32 S3 ∧ CV w5 o8 m8 S1 ∧ CV w5 o10 m10 S1 ∧ CV w5 o12 m12 S2 ∧ Below w.heap.size w w5) := Lib.hid ⟨H4.out.1.later hb5, H4.out.2.1.later hb5, H4.out.2.2.1.later hb5, ha5, H4.out.2.2.2.trans (hb5.mono H4.out.2.2.2.size)⟩
    clear ha5 hr5 hb5 H4 HKY1
    go_wp2_with (first | (refine wpList_value rfl (exec_convO (x := .tmp 61) rfl rfl (HSP.out _ H5.out.2.2.2.2)) ?_))
    refine (HKY2.out w5 (HKB.out _ H5.out.2.2.2.2)).mono ?_
    rintro e w6 ⟨o14, m14, c14, rfl, ha6, hb6⟩
    have H6 : Hid (HK w o8 o10 o12 o14 m8 m10 m12 m14 g1 S1 S2 S3 w6) := Lib.hid (by
      obtain ⟨a1, a2, a3, a4, a5⟩ := H5.out
      exact ⟨a2.later hb6, a3.later hb6, a4.later hb6, ha6, a1.later hb6, a5.trans (hb6.mono a5.size)⟩)
    clear ha6 hb6 H5 HKY2 HSP hx hx1
    go_wp2_with fail
    have hS_0 := H6.out.later (Below.refl _ w6).drew
    clear H6
    refine wp_region_held_drew (S := (HK w o8 o10 o12 o14 m8 m10 m12 m14 g1 S1 S2 S3)) (by kernel_rfl) ?_ (fun hHeld => ?_)
    · (try dsimp only)
      first | assumption
    generalize w6.drew = W0 at *
    refine wpAnyH_take (i := 0) (oi := { dst := some 68, op := Go.Op.move (Go.Operand.tmp 0), type := 25, pos := "law.go:42", after := #[], guard := none }) (v := ?_) rfl (by kernel_rfl) (by kernel_rfl) (by kernel_rfl) (fun _ _ _ h => h) (Or.inl ⟨by rfl, ?_⟩) (by assumption) ?_
    rotate_left
    · intro wS hSw
      (try dsimp only at hSw)
      go_simp
      (try with_reducible rfl)
    (try simp only [Act.put, List.setIfInBounds_toArray, List.set_cons_zero, List.set_cons_succ])
    refine wpAnyH_take (i := 1) (oi := { dst := some 69, op := Go.Op.move (Go.Operand.tmp 1), type := 25, pos := "law.go:42", after := #[], guard := none }) (v := ?_) rfl (by kernel_rfl) (by kernel_rfl) (by kernel_rfl) (fun _ _ _ h => h) (Or.inl ⟨by rfl, ?_⟩) (by assumption) ?_
    rotate_left
    · intro wS hSw
      (try dsimp only at hSw)
      go_simp
      (try with_reducible rfl)
    (try simp only [Act.put, List.setIfInBounds_toArray, List.set_cons_zero, List.set_cons_succ])
    refine wpAnyH_take (i := 4) (oi := { dst := some 72, op := Go.Op.slice 27 (Go.Operand.tmp 7) none none none, type := 25, pos := "law.go:42", after := #[], guard := none }) (v := ?_) rfl (by kernel_rfl) (by kernel_rfl) (by kernel_rfl) (fun _ _ _ h => h) (Or.inl ⟨by rfl, ?_⟩) (by assumption) ?_
    rotate_left
    · intro wS hSw
      (try dsimp only at hSw)
      go_simp
      (try with_reducible rfl)
    (try simp only [Act.put, List.setIfInBounds_toArray, List.set_cons_zero, List.set_cons_succ])
    refine wpAnyH_take (i := 5) (oi := { dst := some 73, op := Go.Op.convert 25 9 (Go.Operand.tmp 72), type := 9, pos := "law.go:42", after := #[{ on := 4, ground := Go.Ground.data }], guard := none }) (v := ?_) rfl (by kernel_rfl) (by kernel_rfl) (by kernel_rfl) (fun _ _ _ h => h) (Or.inl ⟨by rfl, ?_⟩) (by assumption) ?_
    rotate_left
    · intro wS hSw
      refine exec_convO (x := .tmp 72) (cap := 32) ?_ ?_ (hSw.e.conv (c := 32)) <;> rfl
    (try simp only [Act.put, List.setIfInBounds_toArray, List.set_cons_zero, List.set_cons_succ])
    refine wpAnyH_ready (rs := [2]) (by kernel_rfl) (by simp) ?_
    refine AllReadyH.cons (o := { dst := some 70, op := Go.Op.call { callee := Go.Callee.value (Go.Operand.func 32), args := #[Go.Operand.tmp 68, Go.Operand.tmp 69], argTypes := #[25, 25] }, type := 25, pos := "law.go:42", after := #[{ on := 0, ground := Go.Ground.data }, { on := 1, ground := Go.Ground.data }], guard := none }) rfl (fun K hK => ?_) AllReadyH.nil
    go_simp
    (refine (HPX.out _ hS_0.o).mono ?_; rintro e v_5 ⟨g9, rfl, hX, hb_5⟩; have hS_5 := hS_0.later hb_5; clear hb_5 hS_0; skip)
    (try go_wp2_with fail)
    refine hK.out _ _ ?_ (fun hHeld => ?_)
    · (try dsimp only)
      first | assumption
    clear hK K
    (try simp only [Act.put, List.setIfInBounds_toArray, List.set_cons_zero, List.set_cons_succ])
    refine wpAnyH_ready (rs := [3]) (by kernel_rfl) (by simp) ?_
    refine AllReadyH.cons (o := { dst := some 71, op := Go.Op.convert 25 9 (Go.Operand.tmp 70), type := 9, pos := "law.go:42", after := #[{ on := 2, ground := Go.Ground.data }], guard := none }) rfl (fun K hK => ?_) AllReadyH.nil
    (refine step_valueG (by rfl) (exec_convO (x := .tmp 70) rfl rfl hX.conv) ?_; clear hX; skip)
    refine hK.out _ _ ?_ (fun hHeld => ?_)
    · (try dsimp only)
      first | assumption
    clear hK K
    (try simp only [Act.put, List.setIfInBounds_toArray, List.set_cons_zero, List.set_cons_succ])
    refine wpAnyH_take (i := 6) (oi := { dst := some 74, op := Go.Op.binOp Go.BinOp.eql 9 (Go.Operand.tmp 71) (Go.Operand.tmp 73) 9, type := 4, pos := "law.go:42", after := #[{ on := 3, ground := Go.Ground.data }, { on := 5, ground := Go.Ground.data }], guard := none }) (v := ?_) rfl (by kernel_rfl) (by kernel_rfl) (by kernel_rfl) (fun _ _ _ h => h) (Or.inl ⟨by rfl, ?_⟩) (by assumption) ?_
    rotate_left
    · intro wS hSw
      (try dsimp only at hSw)
      go_simp
      (try with_reducible rfl)
    (try simp only [Act.put, List.setIfInBounds_toArray, List.set_cons_zero, List.set_cons_succ])
    refine wpAnyH_take (i := 7) (oi := { dst := some 75, op := Go.Op.move (Go.Operand.tmp 74), type := 4, pos := "law.go:42", after := #[{ on := 6, ground := Go.Ground.data }, { on := 2, ground := Go.Ground.chain }], guard := none }) (v := ?_) rfl (by kernel_rfl) (by kernel_rfl) (by kernel_rfl) (fun _ _ _ h => h) (Or.inl ⟨by rfl, ?_⟩) (by assumption) ?_
    rotate_left
    · intro wS hSw
      (try dsimp only at hSw)
      go_simp
      (try with_reducible rfl)
    (try simp only [Act.put, List.setIfInBounds_toArray, List.set_cons_zero, List.set_cons_succ])
    refine wpAnyH_take (i := 8) (oi := { dst := some 76, op := Go.Op.move (Go.Operand.tmp 8), type := 25, pos := "law.go:42", after := #[{ on := 7, ground := Go.Ground.guard }], guard := some (7, true) }) (v := ?_) rfl (by kernel_rfl) (by kernel_rfl) (by kernel_rfl) (fun _ _ _ h => h) (Or.inl ⟨by rfl, ?_⟩) (by assumption) ?_
    rotate_left
    · intro wS hSw
      (try dsimp only at hSw)
      go_simp
      (try with_reducible rfl)
    (try simp only [Act.put, List.setIfInBounds_toArray, List.set_cons_zero, List.set_cons_succ])
    refine wpAnyH_take (i := 9) (oi := { dst := some 77, op := Go.Op.convert 25 9 (Go.Operand.tmp 76), type := 9, pos := "law.go:42", after := #[{ on := 8, ground := Go.Ground.data }, { on := 7, ground := Go.Ground.guard }], guard := some (7, true) }) (v := ?_) rfl (by kernel_rfl) (by kernel_rfl) (by kernel_rfl) (fun _ _ _ h => h) (Or.inl ⟨by rfl, ?_⟩) (by assumption) ?_
    rotate_left
    · intro wS hSw
      refine exec_convO (x := .tmp 76) (cap := c8) ?_ ?_ (hSw.a.conv (c := c8)) <;> rfl
    (try simp only [Act.put, List.setIfInBounds_toArray, List.set_cons_zero, List.set_cons_succ])
    refine wpAnyH_take (i := 10) (oi := { dst := some 78, op := Go.Op.move (Go.Operand.tmp 10), type := 25, pos := "law.go:42", after := #[{ on := 7, ground := Go.Ground.guard }], guard := some (7, true) }) (v := ?_) rfl (by kernel_rfl) (by kernel_rfl) (by kernel_rfl) (fun _ _ _ h => h) (Or.inl ⟨by rfl, ?_⟩) (by assumption) ?_
    rotate_left
    · intro wS hSw
      (try dsimp only at hSw)
      go_simp
      (try with_reducible rfl)
    (try simp only [Act.put, List.setIfInBounds_toArray, List.set_cons_zero, List.set_cons_succ])
    refine wpAnyH_take (i := 11) (oi := { dst := some 79, op := Go.Op.convert 25 9 (Go.Operand.tmp 78), type := 9, pos := "law.go:42", after := #[{ on := 10, ground := Go.Ground.data }, { on := 7, ground := Go.Ground.guard }], guard := some (7, true) }) (v := ?_) rfl (by kernel_rfl) (by kernel_rfl) (by kernel_rfl) (fun _ _ _ h => h) (Or.inl ⟨by rfl, ?_⟩) (by assumption) ?_
    rotate_left
    · intro wS hSw
      refine exec_convO (x := .tmp 78) (cap := c10) ?_ ?_ (hSw.b.conv (c := c10)) <;> rfl
    (try simp only [Act.put, List.setIfInBounds_toArray, List.set_cons_zero, List.set_cons_succ])
    refine wpAnyH_take (i := 12) (oi := { dst := some 80, op := Go.Op.binOp Go.BinOp.eql 9 (Go.Operand.tmp 77) (Go.Operand.tmp 79) 9, type := 4, pos := "law.go:42", after := #[{ on := 9, ground := Go.Ground.data }, { on := 11, ground := Go.Ground.data }, { on := 7, ground := Go.Ground.guard }], guard := some (7, true) }) (v := ?_) rfl (by kernel_rfl) (by kernel_rfl) (by kernel_rfl) (fun _ _ _ h => h) (Or.inl ⟨by rfl, ?_⟩) (by assumption) ?_
    rotate_left
    · intro wS hSw
      (try dsimp only at hSw)
      go_simp
      (try with_reducible rfl)
    (try simp only [Act.put, List.setIfInBounds_toArray, List.set_cons_zero, List.set_cons_succ])
    refine wpAnyH_take (i := 13) (oi := { dst := some 81, op := Go.Op.pick (Go.Operand.tmp 75) (Go.Operand.tmp 80) (Go.Operand.const (Go.Value.bool false)), type := 4, pos := "law.go:42", after := #[{ on := 7, ground := Go.Ground.data }, { on := 12, ground := Go.Ground.data }], guard := none }) (v := ?_) rfl (by kernel_rfl) (by kernel_rfl) (by kernel_rfl) (fun _ _ _ h => h) (Or.inl ⟨by rfl, ?_⟩) (by assumption) ?_
    rotate_left
    · intro wS hSw
      (try dsimp only at hSw)
      go_simp
      (try with_reducible rfl)
    (try simp only [Act.put, List.setIfInBounds_toArray, List.set_cons_zero, List.set_cons_succ])
    refine wpAnyH_take (i := 14) (oi := { dst := some 82, op := Go.Op.move (Go.Operand.tmp 81), type := 4, pos := "law.go:42", after := #[{ on := 13, ground := Go.Ground.data }, { on := 7, ground := Go.Ground.chain }], guard := none }) (v := ?_) rfl (by kernel_rfl) (by kernel_rfl) (by kernel_rfl) (fun _ _ _ h => h) (Or.inl ⟨by rfl, ?_⟩) (by assumption) ?_
    rotate_left
    · intro wS hSw
      (try dsimp only at hSw)
      go_simp
      (try with_reducible rfl)
    (try simp only [Act.put, List.setIfInBounds_toArray, List.set_cons_zero, List.set_cons_succ])
    refine wpAnyH_take (i := 15) (oi := { dst := some 83, op := Go.Op.move (Go.Operand.tmp 9), type := 46, pos := "law.go:42", after := #[{ on := 14, ground := Go.Ground.guard }], guard := some (14, true) }) (v := ?_) rfl (by kernel_rfl) (by kernel_rfl) (by kernel_rfl) (fun _ _ _ h => h) (Or.inl ⟨by rfl, ?_⟩) (by assumption) ?_
    rotate_left
    · intro wS hSw
      (try dsimp only at hSw)
      go_simp
      (try with_reducible rfl)
    (try simp only [Act.put, List.setIfInBounds_toArray, List.set_cons_zero, List.set_cons_succ])
    refine wpAnyH_take (i := 17) (oi := { dst := some 85, op := Go.Op.move (Go.Operand.tmp 11), type := 3, pos := "law.go:42", after := #[{ on := 14, ground := Go.Ground.guard }], guard := some (14, true) }) (v := ?_) rfl (by kernel_rfl) (by kernel_rfl) (by kernel_rfl) (fun _ _ _ h => h) (Or.inl ⟨by rfl, ?_⟩) (by assumption) ?_
    rotate_left
    · intro wS hSw
      (try dsimp only at hSw)
      go_simp
      (try with_reducible rfl)
    (try simp only [Act.put, List.setIfInBounds_toArray, List.set_cons_zero, List.set_cons_succ])
    refine wpAnyH_ready (rs := [16]) (by kernel_rfl) (by simp) ?_
    refine AllReadyH.cons (o := { dst := some 84, op := Go.Op.call { callee := Go.Callee.value (Go.Operand.func 33), args := #[Go.Operand.tmp 83], argTypes := #[46] }, type := 3, pos := "law.go:42", after := #[{ on := 15, ground := Go.Ground.data }, { on := 14, ground := Go.Ground.chain }, { on := 14, ground := Go.Ground.guard }], guard := some (14, true) }) rfl (fun K hK => ?_) AllReadyH.nil
    go_simp
    (refine (num_any v9 k1 _ HV9.out (HG.out.later hS_5.o).2).mono ?_; rintro e v_6 ⟨rfl, hb_6⟩; have hS_6 := hS_5.later hb_6; clear hb_6 hS_5; skip)
    (try go_wp2_with fail)
    refine hK.out _ _ ?_ (fun hHeld => ?_)
    · (try dsimp only)
      first | assumption
    clear hK K
    (try simp only [Act.put, List.setIfInBounds_toArray, List.set_cons_zero, List.set_cons_succ])
    refine wpAnyH_take (i := 18) (oi := { dst := some 86, op := Go.Op.binOp Go.BinOp.eql 3 (Go.Operand.tmp 84) (Go.Operand.tmp 85) 3, type := 4, pos := "law.go:42", after := #[{ on := 16, ground := Go.Ground.data }, { on := 17, ground := Go.Ground.data }, { on := 14, ground := Go.Ground.guard }], guard := some (14, true) }) (v := ?_) rfl (by kernel_rfl) (by kernel_rfl) (by kernel_rfl) (fun _ _ _ h => h) (Or.inl ⟨by rfl, ?_⟩) (by assumption) ?_
    rotate_left
    · intro wS hSw
      (try dsimp only at hSw)
      go_simp
      (try with_reducible rfl)
    (try simp only [Act.put, List.setIfInBounds_toArray, List.set_cons_zero, List.set_cons_succ])
    refine wpAnyH_take (i := 19) (oi := { dst := some 87, op := Go.Op.pick (Go.Operand.tmp 82) (Go.Operand.tmp 86) (Go.Operand.const (Go.Value.bool false)), type := 4, pos := "law.go:42", after := #[{ on := 14, ground := Go.Ground.data }, { on := 18, ground := Go.Ground.data }], guard := none }) (v := ?_) rfl (by kernel_rfl) (by kernel_rfl) (by kernel_rfl) (fun _ _ _ h => h) (Or.inl ⟨by rfl, ?_⟩) (by assumption) ?_
    rotate_left
    · intro wS hSw
      (try dsimp only at hSw)
      go_simp
      (try with_reducible rfl)
    (try simp only [Act.put, List.setIfInBounds_toArray, List.set_cons_zero, List.set_cons_succ])
    refine wpAnyH_take (i := 20) (oi := { dst := some 88, op := Go.Op.move (Go.Operand.tmp 87), type := 4, pos := "law.go:42", after := #[{ on := 19, ground := Go.Ground.data }, { on := 16, ground := Go.Ground.chain }], guard := none }) (v := ?_) rfl (by kernel_rfl) (by kernel_rfl) (by kernel_rfl) (fun _ _ _ h => h) (Or.inl ⟨by rfl, ?_⟩) (by assumption) ?_
    rotate_left
    · intro wS hSw
      (try dsimp only at hSw)
      go_simp
      (try with_reducible rfl)
    (try simp only [Act.put, List.setIfInBounds_toArray, List.set_cons_zero, List.set_cons_succ])
    refine wpAnyH_take (i := 21) (oi := { dst := some 89, op := Go.Op.move (Go.Operand.tmp 12), type := 25, pos := "law.go:42", after := #[{ on := 20, ground := Go.Ground.guard }], guard := some (20, true) }) (v := ?_) rfl (by kernel_rfl) (by kernel_rfl) (by kernel_rfl) (fun _ _ _ h => h) (Or.inl ⟨by rfl, ?_⟩) (by assumption) ?_
    rotate_left
    · intro wS hSw
      (try dsimp only at hSw)
      go_simp
      (try with_reducible rfl)
    (try simp only [Act.put, List.setIfInBounds_toArray, List.set_cons_zero, List.set_cons_succ])
    refine wpAnyH_take (i := 22) (oi := { dst := some 90, op := Go.Op.convert 25 9 (Go.Operand.tmp 89), type := 9, pos := "law.go:42", after := #[{ on := 21, ground := Go.Ground.data }, { on := 20, ground := Go.Ground.guard }], guard := some (20, true) }) (v := ?_) rfl (by kernel_rfl) (by kernel_rfl) (by kernel_rfl) (fun _ _ _ h => h) (Or.inl ⟨by rfl, ?_⟩) (by assumption) ?_
    rotate_left
    · intro wS hSw
      refine exec_convO (x := .tmp 89) (cap := c12) ?_ ?_ (hSw.c.conv (c := c12)) <;> rfl
    (try simp only [Act.put, List.setIfInBounds_toArray, List.set_cons_zero, List.set_cons_succ])
    refine wpAnyH_take (i := 23) (oi := { dst := some 91, op := Go.Op.move (Go.Operand.tmp 14), type := 25, pos := "law.go:42", after := #[{ on := 20, ground := Go.Ground.guard }], guard := some (20, true) }) (v := ?_) rfl (by kernel_rfl) (by kernel_rfl) (by kernel_rfl) (fun _ _ _ h => h) (Or.inl ⟨by rfl, ?_⟩) (by assumption) ?_
    rotate_left
    · intro wS hSw
      (try dsimp only at hSw)
      go_simp
      (try with_reducible rfl)
    (try simp only [Act.put, List.setIfInBounds_toArray, List.set_cons_zero, List.set_cons_succ])
    refine wpAnyH_take (i := 24) (oi := { dst := some 92, op := Go.Op.convert 25 9 (Go.Operand.tmp 91), type := 9, pos := "law.go:42", after := #[{ on := 23, ground := Go.Ground.data }, { on := 20, ground := Go.Ground.guard }], guard := some (20, true) }) (v := ?_) rfl (by kernel_rfl) (by kernel_rfl) (by kernel_rfl) (fun _ _ _ h => h) (Or.inl ⟨by rfl, ?_⟩) (by assumption) ?_
    rotate_left
    · intro wS hSw
      refine exec_convO (x := .tmp 91) (cap := c14) ?_ ?_ (hSw.d.conv (c := c14)) <;> rfl
    (try simp only [Act.put, List.setIfInBounds_toArray, List.set_cons_zero, List.set_cons_succ])
    refine wpAnyH_take (i := 25) (oi := { dst := some 93, op := Go.Op.binOp Go.BinOp.eql 9 (Go.Operand.tmp 90) (Go.Operand.tmp 92) 9, type := 4, pos := "law.go:42", after := #[{ on := 22, ground := Go.Ground.data }, { on := 24, ground := Go.Ground.data }, { on := 20, ground := Go.Ground.guard }], guard := some (20, true) }) (v := ?_) rfl (by kernel_rfl) (by kernel_rfl) (by kernel_rfl) (fun _ _ _ h => h) (Or.inl ⟨by rfl, ?_⟩) (by assumption) ?_
    rotate_left
    · intro wS hSw
      (try dsimp only at hSw)
      go_simp
      (try with_reducible rfl)
    (try simp only [Act.put, List.setIfInBounds_toArray, List.set_cons_zero, List.set_cons_succ])
    refine wpAnyH_take (i := 26) (oi := { dst := some 94, op := Go.Op.pick (Go.Operand.tmp 88) (Go.Operand.tmp 93) (Go.Operand.const (Go.Value.bool false)), type := 4, pos := "law.go:42", after := #[{ on := 20, ground := Go.Ground.data }, { on := 25, ground := Go.Ground.data }], guard := none }) (v := ?_) rfl (by kernel_rfl) (by kernel_rfl) (by kernel_rfl) (fun _ _ _ h => h) (Or.inl ⟨by rfl, ?_⟩) (by assumption) ?_
    rotate_left
    · intro wS hSw
      (try dsimp only at hSw)
      go_simp
      (try with_reducible rfl)
    (try simp only [Act.put, List.setIfInBounds_toArray, List.set_cons_zero, List.set_cons_succ])
    refine wpAnyH_take (i := 27) (oi := { dst := some 95, op := Go.Op.move (Go.Operand.tmp 94), type := 4, pos := "law.go:42", after := #[{ on := 26, ground := Go.Ground.data }, { on := 20, ground := Go.Ground.chain }], guard := none }) (v := ?_) rfl (by kernel_rfl) (by kernel_rfl) (by kernel_rfl) (fun _ _ _ h => h) (Or.inl ⟨by rfl, ?_⟩) (by assumption) ?_
    rotate_left
    · intro wS hSw
      (try dsimp only at hSw)
      go_simp
      (try with_reducible rfl)
    (try simp only [Act.put, List.setIfInBounds_toArray, List.set_cons_zero, List.set_cons_succ])
    refine wpAnyH_take (i := 28) (oi := { dst := some 96, op := Go.Op.move (Go.Operand.tmp 13), type := 46, pos := "law.go:42", after := #[{ on := 27, ground := Go.Ground.guard }], guard := some (27, true) }) (v := ?_) rfl (by kernel_rfl) (by kernel_rfl) (by kernel_rfl) (fun _ _ _ h => h) (Or.inl ⟨by rfl, ?_⟩) (by assumption) ?_
    rotate_left
    · intro wS hSw
      (try dsimp only at hSw)
      go_simp
      (try with_reducible rfl)
    (try simp only [Act.put, List.setIfInBounds_toArray, List.set_cons_zero, List.set_cons_succ])
    refine wpAnyH_take (i := 30) (oi := { dst := some 98, op := Go.Op.move (Go.Operand.tmp 15), type := 3, pos := "law.go:42", after := #[{ on := 27, ground := Go.Ground.guard }], guard := some (27, true) }) (v := ?_) rfl (by kernel_rfl) (by kernel_rfl) (by kernel_rfl) (fun _ _ _ h => h) (Or.inl ⟨by rfl, ?_⟩) (by assumption) ?_
    rotate_left
    · intro wS hSw
      (try dsimp only at hSw)
      go_simp
      (try with_reducible rfl)
    (try simp only [Act.put, List.setIfInBounds_toArray, List.set_cons_zero, List.set_cons_succ])
    refine wpAnyH_ready (rs := [29]) (by kernel_rfl) (by simp) ?_
    refine AllReadyH.cons (o := { dst := some 97, op := Go.Op.call { callee := Go.Callee.value (Go.Operand.func 33), args := #[Go.Operand.tmp 96], argTypes := #[46] }, type := 3, pos := "law.go:42", after := #[{ on := 28, ground := Go.Ground.data }, { on := 27, ground := Go.Ground.chain }, { on := 27, ground := Go.Ground.guard }], guard := some (27, true) }) rfl (fun K hK => ?_) AllReadyH.nil
    go_simp
    (refine (num_any v13 k2 _ HV13.out (HG.out.later hS_6.o).2).mono ?_; rintro e v_7 ⟨rfl, hb_7⟩; have hS_7 := hS_6.later hb_7; clear hb_7 hS_6; skip)
    (try go_wp2_with fail)
    refine hK.out _ _ ?_ (fun hHeld => ?_)
    · (try dsimp only)
      first | assumption
    clear hK K
    (try simp only [Act.put, List.setIfInBounds_toArray, List.set_cons_zero, List.set_cons_succ])
    refine wpAnyH_take (i := 31) (oi := { dst := some 99, op := Go.Op.binOp Go.BinOp.eql 3 (Go.Operand.tmp 97) (Go.Operand.tmp 98) 3, type := 4, pos := "law.go:42", after := #[{ on := 29, ground := Go.Ground.data }, { on := 30, ground := Go.Ground.data }, { on := 27, ground := Go.Ground.guard }], guard := some (27, true) }) (v := ?_) rfl (by kernel_rfl) (by kernel_rfl) (by kernel_rfl) (fun _ _ _ h => h) (Or.inl ⟨by rfl, ?_⟩) (by assumption) ?_
    rotate_left
    · intro wS hSw
      (try dsimp only at hSw)
      go_simp
      (try with_reducible rfl)
    (try simp only [Act.put, List.setIfInBounds_toArray, List.set_cons_zero, List.set_cons_succ])
    refine wpAnyH_take (i := 32) (oi := { dst := some 100, op := Go.Op.pick (Go.Operand.tmp 95) (Go.Operand.tmp 99) (Go.Operand.const (Go.Value.bool false)), type := 4, pos := "law.go:42", after := #[{ on := 27, ground := Go.Ground.data }, { on := 31, ground := Go.Ground.data }], guard := none }) (v := ?_) rfl (by kernel_rfl) (by kernel_rfl) (by kernel_rfl) (fun _ _ _ h => h) (Or.inl ⟨by rfl, ?_⟩) (by assumption) ?_
    rotate_left
    · intro wS hSw
      (try dsimp only at hSw)
      go_simp
      (try with_reducible rfl)
    (try simp only [Act.put, List.setIfInBounds_toArray, List.set_cons_zero, List.set_cons_succ])
    refine wpAnyH_take (i := 33) (oi := { dst := some 101, op := Go.Op.move (Go.Operand.tmp 100), type := 4, pos := "law.go:42", after := #[{ on := 32, ground := Go.Ground.data }, { on := 29, ground := Go.Ground.chain }], guard := none }) (v := ?_) rfl (by kernel_rfl) (by kernel_rfl) (by kernel_rfl) (fun _ _ _ h => h) (Or.inl ⟨by rfl, ?_⟩) (by assumption) ?_
    rotate_left
    · intro wS hSw
      (try dsimp only at hSw)
      go_simp
      (try with_reducible rfl)
    (try simp only [Act.put, List.setIfInBounds_toArray, List.set_cons_zero, List.set_cons_succ])
    refine wpAnyH_ready (rs := [34]) (by kernel_rfl) (by simp) ?_
    refine AllReadyH.cons (o := { dst := some 102, op := Go.Op.call { callee := Go.Callee.value (Go.Operand.func 26), args := #[], argTypes := #[] }, type := 4, pos := "law.go:42", after := #[{ on := 33, ground := Go.Ground.chain }, { on := 33, ground := Go.Ground.guard }], guard := some (33, true) }) rfl (fun K hK => ?_) AllReadyH.nil
    go_simp
    (refine (hkdf_sure _ (HG.out.later hS_7.o)).mono ?_; rintro e v_8 ⟨rfl, hb_8⟩; have hS_8 := hS_7.later hb_8; clear hb_8 hS_7; skip)
    (try go_wp2_with fail)
    refine hK.out _ _ ?_ (fun hHeld => ?_)
    · (try dsimp only)
      first | assumption
    clear hK K
    (try simp only [Act.put, List.setIfInBounds_toArray, List.set_cons_zero, List.set_cons_succ])
    refine wpAnyH_take (i := 35) (oi := { dst := some 103, op := Go.Op.pick (Go.Operand.tmp 101) (Go.Operand.tmp 102) (Go.Operand.const (Go.Value.bool false)), type := 4, pos := "law.go:42", after := #[{ on := 33, ground := Go.Ground.data }, { on := 34, ground := Go.Ground.data }], guard := none }) (v := ?_) rfl (by kernel_rfl) (by kernel_rfl) (by kernel_rfl) (fun _ _ _ h => h) (Or.inl ⟨by rfl, ?_⟩) (by assumption) ?_
    rotate_left
    · intro wS hSw
      (try dsimp only at hSw)
      go_simp
      (try with_reducible rfl)
    (try simp only [Act.put, List.setIfInBounds_toArray, List.set_cons_zero, List.set_cons_succ])
    refine wpAnyH_take (i := 36) (oi := { dst := some 6, op := Go.Op.assign (Go.Operand.tmp 103), type := 4, pos := "law.go:42", after := #[{ on := 35, ground := Go.Ground.data }, { on := 34, ground := Go.Ground.chain }, { on := 0, ground := Go.Ground.phase }, { on := 1, ground := Go.Ground.phase }, { on := 2, ground := Go.Ground.phase }, { on := 3, ground := Go.Ground.phase }, { on := 4, ground := Go.Ground.phase }, { on := 5, ground := Go.Ground.phase }, { on := 6, ground := Go.Ground.phase }, { on := 7, ground := Go.Ground.phase }, { on := 8, ground := Go.Ground.phase }, { on := 9, ground := Go.Ground.phase }, { on := 10, ground := Go.Ground.phase }, { on := 11, ground := Go.Ground.phase }, { on := 12, ground := Go.Ground.phase }, { on := 13, ground := Go.Ground.phase }, { on := 14, ground := Go.Ground.phase }, { on := 15, ground := Go.Ground.phase }, { on := 16, ground := Go.Ground.phase }, { on := 17, ground := Go.Ground.phase }, { on := 18, ground := Go.Ground.phase }, { on := 19, ground := Go.Ground.phase }, { on := 20, ground := Go.Ground.phase }, { on := 21, ground := Go.Ground.phase }, { on := 22, ground := Go.Ground.phase }, { on := 23, ground := Go.Ground.phase }, { on := 24, ground := Go.Ground.phase }, { on := 25, ground := Go.Ground.phase }, { on := 26, ground := Go.Ground.phase }, { on := 27, ground := Go.Ground.phase }, { on := 28, ground := Go.Ground.phase }, { on := 29, ground := Go.Ground.phase }, { on := 30, ground := Go.Ground.phase }, { on := 31, ground := Go.Ground.phase }, { on := 32, ground := Go.Ground.phase }, { on := 33, ground := Go.Ground.phase }, { on := 34, ground := Go.Ground.phase }, { on := 35, ground := Go.Ground.phase }], guard := none }) (v := ?_) rfl (by kernel_rfl) (by kernel_rfl) (by kernel_rfl) (fun _ _ _ h => h) (Or.inl ⟨by rfl, ?_⟩) (by assumption) ?_
    rotate_left
    · intro wS hSw
      (try dsimp only at hSw)
      go_simp
      (try with_reducible rfl)
    (try simp only [Act.put, List.setIfInBounds_toArray, List.set_cons_zero, List.set_cons_succ])
    refine wpAnyH_done (by kernel_rfl) ?_ _
    have HO := Lib.hid hS_8.o
    clear hS_8
    go_wp2_with fail
    go_ret
    exact ⟨rfl, HO.out⟩
end Go.Proofs.YtbblibddikdakaaDoor
