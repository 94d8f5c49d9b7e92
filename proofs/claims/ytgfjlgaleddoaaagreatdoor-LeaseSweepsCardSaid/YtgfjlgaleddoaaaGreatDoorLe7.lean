/- Leases held against one another; a lease found. -/
import Derived.Test.YtgfjlgaleddoaaaGreatDoorLe4
import Derived.Laws.Cover1
import Derived.Laws.Strings
namespace Go.Proofs.YtgfjlgaleddoaaaGreatDoor
set_option linter.unusedVariables false
set_option linter.unusedSimpArgs false
open Go.RowKit
def cmpS (a b : ByteArray) : Int := if Op.bytesLess a.toList b.toList = true then -1 else if (a.toList == b.toList) = true then 0 else 1
def cmpU (a b : Nat) : Int := if a < b then -1 else if b < a then 1 else 0
theorem nans_any (s : ByteArray) (w : World) : Calls Tryz.prog 87 #[.string s] w fun e w' => e = .returned (.bool false) ∧ w' = w := by
  go_enter Tryz.func87, Tryz.ntmps87
  go_wp2
  go_ret
  refine ⟨?_, rfl⟩
  first | rfl | simp
theorem nanu_any (n : Nat) (w : World) : Calls Tryz.prog 86 #[.int .u64 (n : Int)] w fun e w' => e = .returned (.bool false) ∧ w' = w := by
  go_enter Tryz.func86, Tryz.ntmps86
  go_wp2
  go_ret
  refine ⟨?_, rfl⟩
  first | rfl | simp
set_option maxRecDepth 100000 in
set_option maxHeartbeats 1000000 in
theorem cmps_any (a b : ByteArray) (w : World) : Calls Tryz.prog 62 #[.string a, .string b] w fun e w' => e = .returned (.int .i64 (cmpS a b)) ∧ w' = w := by
  have HA := Lib.hid (fun w => nans_any a w)
  have HB := Lib.hid (fun w => nans_any b w)
  unfold cmpS
  cases h : Op.bytesLess a.toList b.toList
  · cases h2 : (a.toList == b.toList)
    · go_enter Tryz.func62, Tryz.ntmps62
      go_wp2_with fail
      refine (HA.out _).mono ?_
      rintro e w1 ⟨rfl, hw⟩
      rw [hw]
      go_wp2_with fail
      refine (HB.out _).mono ?_
      rintro e w2 ⟨rfl, hw2⟩
      rw [hw2]
      go_wp2_with fail
      go_ret
      exact ⟨rfl, rfl⟩
    · go_enter Tryz.func62, Tryz.ntmps62
      go_wp2_with fail
      refine (HA.out _).mono ?_
      rintro e w1 ⟨rfl, hw⟩
      rw [hw]
      go_wp2_with fail
      refine (HB.out _).mono ?_
      rintro e w2 ⟨rfl, hw2⟩
      rw [hw2]
      go_wp2_with fail
      go_ret
      exact ⟨rfl, rfl⟩
  · go_enter Tryz.func62, Tryz.ntmps62
    go_wp2_with fail
    refine (HA.out _).mono ?_
    rintro e w1 ⟨rfl, hw⟩
    rw [hw]
    go_wp2_with fail
    refine (HB.out _).mono ?_
    rintro e w2 ⟨rfl, hw2⟩
    rw [hw2]
    go_wp2_with fail
    go_ret
    exact ⟨rfl, rfl⟩
set_option maxRecDepth 100000 in
set_option maxHeartbeats 1000000 in
theorem cmpu_any (a b : Nat) (w : World) : Calls Tryz.prog 61 #[.int .u64 (a : Int), .int .u64 (b : Int)] w fun e w' => e = .returned (.int .i64 (cmpU a b)) ∧ w' = w := by
  have HA := Lib.hid (fun w => nanu_any a w)
  have HB := Lib.hid (fun w => nanu_any b w)
  have key : (a < b ∧ cmpU a b = -1) ∨ (b < a ∧ cmpU a b = 1) ∨ (a = b ∧ cmpU a b = 0) := by
    unfold cmpU
    rcases Nat.lt_trichotomy a b with h | h | h
    · exact .inl ⟨h, by rw [if_pos h]⟩
    · exact .inr (.inr ⟨h, by rw [if_neg (by omega), if_neg (by omega)]⟩)
    · exact .inr (.inl ⟨h, by rw [if_neg (by omega), if_pos h]⟩)
  rcases key with ⟨h, e⟩ | ⟨h, e⟩ | ⟨h, e⟩
  · rw [e]
    have h1 : (a : Int) < (b : Int) := by omega
    clear h e
    go_enter Tryz.func61, Tryz.ntmps61
    go_wp2_with fail
    refine (HA.out _).mono ?_
    rintro e w1 ⟨rfl, hw⟩
    rw [hw]
    go_wp2_with fail
    refine (HB.out _).mono ?_
    rintro e w2 ⟨rfl, hw2⟩
    rw [hw2]
    go_wp2_with fail
    go_ret
    exact ⟨rfl, rfl⟩
  · rw [e]
    have h1 : ¬ (a : Int) < (b : Int) := by omega
    have h2 : (b : Int) < (a : Int) := by omega
    clear h e
    go_enter Tryz.func61, Tryz.ntmps61
    go_wp2_with fail
    refine (HA.out _).mono ?_
    rintro e w1 ⟨rfl, hw⟩
    rw [hw]
    go_wp2_with fail
    refine (HB.out _).mono ?_
    rintro e w2 ⟨rfl, hw2⟩
    rw [hw2]
    go_wp2_with fail
    go_ret
    exact ⟨rfl, rfl⟩
  · rw [e]
    subst h
    have h1 : ¬ (a : Int) < (a : Int) := by omega
    clear e
    go_enter Tryz.func61, Tryz.ntmps61
    go_wp2_with fail
    refine (HA.out _).mono ?_
    rintro e w1 ⟨rfl, hw⟩
    rw [hw]
    go_wp2_with fail
    refine (HA.out _).mono ?_
    rintro e w2 ⟨rfl, hw2⟩
    rw [hw2]
    go_wp2_with fail
    go_ret
    exact ⟨rfl, rfl⟩
def orI (a b : Int) : Int := if a = 0 then b else a
set_option maxRecDepth 100000 in
set_option maxHeartbeats 1000000 in
theorem or_any (g : Nat) (a b : Int) (w : World) (h0 : w.cell? ⟨g, 0, none⟩ = some (.int .i64 a)) (h1 : w.cell? ⟨g, 1, none⟩ = some (.int .i64 b)) :
    Calls Tryz.prog 60 #[.slice (some ⟨g, 0, none⟩) 2 2] w fun e w' => e = .returned (.int .i64 (orI a b)) ∧ w' = w := by
  go_enter Tryz.func60, Tryz.ntmps60
  go_wp2_with fail
  go_loopw [8] (fun v wr => ∃ i : Nat, i ≤ 2 ∧ v = .int .i64 (i : Int) ∧ (0 < i → a = 0) ∧ (1 < i → b = 0) ∧ wr = w) (fun v _ => 2 - (intOf v).toNat)
  case atStart => exact ⟨0, by omega, rfl, fun h => absurd h (by omega), fun h => absurd h (by omega), rfl⟩
  case round =>
    obtain ⟨i, hi, rfl, ha, hb, hw⟩ := hrel
    subst wr
    rcases (show i = 0 ∨ i = 1 ∨ i = 2 by omega) with rfl | rfl | rfl
    · by_cases e : a = 0
      · subst e
        go_wp2_with fail
        go_roundw
        case rel => exact ⟨1, by omega, by first | rfl | go_num, by first | trivial | exact fun _ => rfl, fun h => absurd h (by omega), by first | trivial | rfl⟩
        case measure => simp [intOf]
      · have e2 : (a == 0) = false := beq_eq_false_iff_ne.2 e
        go_wp2_with fail
        go_ret
        exact ⟨by unfold orI; rw [if_neg e]; rfl, rfl⟩
    · obtain rfl := ha (by omega)
      by_cases e : b = 0
      · subst e
        go_wp2_with fail
        go_roundw
        case rel => exact ⟨2, by omega, by first | rfl | go_num, by first | trivial | exact fun _ => rfl, by first | trivial | exact fun _ => rfl, by first | trivial | rfl⟩
        case measure => simp [intOf]
      · have e2 : (b == 0) = false := beq_eq_false_iff_ne.2 e
        go_wp2_with fail
        go_ret
        exact ⟨by unfold orI; rw [if_pos rfl]; rfl, rfl⟩
    · obtain rfl := ha (by omega)
      obtain rfl := hb (by omega)
      go_wp2_with fail
      go_ret
      exact ⟨rfl, rfl⟩
set_option maxRecDepth 100000 in
set_option maxHeartbeats 1000000 in
theorem f1_any (x : LE) (s : ByteArray) (w : World) : Calls Tryz.prog 79 #[.agg (leL x).toArray, .string s] w fun e w' => e = .returned (.int .i64 (cmpS x.id s)) ∧ w' = w.alloc (.cells (leL x).toArray 33) := by
  have HC := Lib.hid (fun w => cmps_any x.id s w)
  unfold leL at *
  go_enter Tryz.func79, Tryz.ntmps79
  go_wp2_with (first | (refine (HC.out _).mono ?_; rintro e w2 ⟨rfl, hw2⟩; rw [hw2]) | fail)
  go_ret
  exact ⟨rfl, rfl⟩
def FindR (n : Nat) (X : Nat → LE) (s : ByteArray) (w : World) (e : Ending) (w' : World) : Prop := Below w.heap.size w w' ∧ ∃ r f, e = .returned (.tuple #[.int .i64 ((r : Nat) : Int), .bool f]) ∧ r ≤ n ∧ (0 < r → cmpS (X (r - 1)).id s < 0) ∧ (r < n → 0 ≤ cmpS (X r).id s) ∧ f = (decide (r < n) && cmpS (X r).id s == 0)
set_option maxRecDepth 100000 in
set_option maxHeartbeats 1000000 in
theorem bs_any (oa : Option Addr) (n c : Nat) (X : Nat → LE) (s : ByteArray) (w : World) (hX : CK 5 w oa n (leC X)) (h32 : n ≤ 32) :
    Calls Tryz.prog 78 #[.slice oa n c, .string s, .func (.func 79) #[] #[]] w (FindR n X s w) := by
  have HX := Lib.hid hX
  have H32 := Lib.hid h32
  clear hX h32
  go_enter Tryz.func78, Tryz.ntmps78
  go_wp2_with fail
  go_loopw [9, 10] (fun x y wr => ∃ i j : Nat, i ≤ j ∧ j ≤ n ∧ x = .int .i64 (i : Int) ∧ y = .int .i64 (j : Int) ∧ (0 < i → cmpS (X (i - 1)).id s < 0) ∧ (j < n → 0 ≤ cmpS (X j).id s) ∧ Below w.heap.size w wr) (fun x y _ => (intOf y).toNat - (intOf x).toNat)
  case atStart => exact ⟨0, n, Nat.zero_le _, Nat.le_refl _, rfl, rfl, fun h => absurd h (by omega), fun h => absurd h (by omega), Below.refl _ _⟩
  case round =>
    obtain ⟨i, j, hij, hjn, rfl, rfl, hA, hB, hbw⟩ := hrel
    have HA := Lib.hid hA
    have HB := Lib.hid hB
    have HBW := Lib.hid hbw
    clear hA hB hbw
    by_cases hlt : i < j
    · have i1 : (i : Int) < (j : Int) := by omega
      obtain ⟨h, hh⟩ : ∃ h, (i + j) / 2 = h := ⟨_, rfl⟩
      have HH := Lib.hid (show i ≤ h ∧ h < j ∧ j ≤ n by omega)
      have k1 : IntKind.i64.wrap ((i : Int) + (j : Int)) = ((i + j : Nat) : Int) := by have := H32.out; rw [IntWalk.i64_in _ (by omega)]; omega
      have k2 : IntKind.u64.wrap ((i : Int) + (j : Int)) = (i : Int) + (j : Int) := by have := H32.out; rw [IntKind.wrap_u64]; omega
      have k3 : wrap64 (((i : Int) + (j : Int)) / 2) = (h : Int) := by have := H32.out; rw [IntWalk.wrap64_in _ (by omega)]; omega
      have k4 : (h : Int) < (n : Int) := by omega
      have k5 : (0 : Int) ≤ (h : Int) := by omega
      obtain ⟨h2, hh2⟩ : ∃ q, h + 1 = q := ⟨_, rfl⟩
      have k6 : (h : Int) + 1 = (h2 : Int) := by omega
      have k7 : IntKind.i64.wrap (h2 : Int) = (h2 : Int) := IntWalk.i64_in _ (by have := H32.out; omega)
      have HH2 := Lib.hid hh2
      obtain ⟨b, off, e, hrg⟩ := (HX.out.later HBW.out) h (by omega)
      subst e
      obtain ⟨C, hC⟩ : ∃ q, (leL (X h)).toArray = q := ⟨_, rfl⟩
      have HIS : Hid ((Tryz.prog.info? 33).map (·.size) = some C.size) := Lib.hid (by rw [← hC]; exact info_le)
      have HRG : Hid (wr.rangeAt b (off + h * 5) C.toList) := Lib.hid (by rw [← hC]; exact hrg)
      have HF := Lib.hid (f1_any (X h) s wr)
      rw [hC] at HF
      obtain ⟨d, hd⟩ : ∃ d, cmpS (X h).id s = d := ⟨_, rfl⟩
      rw [hd] at HF
      have HD := Lib.hid hd
      have HBZ := Lib.hid (HBW.out.trans (((Below.refl _ _).alloc (Nat.le_refl _) (.cells C 33)).mono HBW.out.size))
      clear hij hjn hlt hh hh2 hrg hC hd
      by_cases hn : d < 0
      · have HN := Lib.hid hn
        go_wp2_with (first | (refine wpList_value rfl (exec_loadA (x := .tmp 27) (C := C) rfl rfl HRG.out Tryz.underlying33 rfl HIS.out) ?_) | (refine HF.out.mono ?_; rintro e w2 ⟨rfl, hw2⟩; rw [hw2]; clear hw2) | fail)
        go_roundw
        case rel => exact ⟨h2, j, by have := HH.out; have := HH2.out; omega, by have := HH.out; omega, by first | rfl | go_num, by first | rfl | go_num, fun _ => by have h9 := HH2.out; rw [show h2 - 1 = h by omega, HD.out]; exact HN.out, HB.out, HBZ.out⟩
        case measure => have := HH.out; have := HH2.out; simp [intOf] <;> omega
      · have HN := Lib.hid hn
        go_wp2_with (first | (refine wpList_value rfl (exec_loadA (x := .tmp 27) (C := C) rfl rfl HRG.out Tryz.underlying33 rfl HIS.out) ?_) | (refine HF.out.mono ?_; rintro e w2 ⟨rfl, hw2⟩; rw [hw2]; clear hw2) | fail)
        go_roundw
        case rel => exact ⟨i, h, by have := HH.out; omega, by have := HH.out; omega, by first | rfl | go_num, by first | rfl | go_num, HA.out, fun _ => by rw [HD.out]; have := HN.out; omega, HBZ.out⟩
        case measure => have := HH.out; simp [intOf] <;> omega
    · obtain rfl : i = j := by omega
      have i1 : ¬ (i : Int) < (i : Int) := by omega
      by_cases hin : i < n
      · have i2 : (i : Int) < (n : Int) := by omega
        have k5 : (0 : Int) ≤ (i : Int) := by omega
        obtain ⟨b, off, e, hrg⟩ := (HX.out.later HBW.out) i hin
        subst e
        obtain ⟨C, hC⟩ : ∃ q, (leL (X i)).toArray = q := ⟨_, rfl⟩
        have HIS : Hid ((Tryz.prog.info? 33).map (·.size) = some C.size) := Lib.hid (by rw [← hC]; exact info_le)
        have HRG : Hid (wr.rangeAt b (off + i * 5) C.toList) := Lib.hid (by rw [← hC]; exact hrg)
        have HF := Lib.hid (f1_any (X i) s wr)
        rw [hC] at HF
        obtain ⟨d, hd⟩ : ∃ d, cmpS (X i).id s = d := ⟨_, rfl⟩
        rw [hd] at HF
        have HD := Lib.hid hd
        have HI := Lib.hid hin
        have HBZ := Lib.hid (HBW.out.trans (((Below.refl _ _).alloc (Nat.le_refl _) (.cells C 33)).mono HBW.out.size))
        clear hij hjn hlt hin hrg hC hd
        go_wp2_with (first | (refine wpList_valueG (by rfl) (exec_loadA (x := .tmp 43) (C := C) rfl rfl HRG.out Tryz.underlying33 rfl HIS.out) ?_) | (refine HF.out.mono ?_; rintro e w2 ⟨rfl, hw2⟩; rw [hw2]; clear hw2) | fail)
        refine bodyPost_ret (v := .tuple #[.int .i64 (i : Int), .bool (d == 0)]) (results_tmp2 (fn := Tryz.f78) (t := 6) (u := 7) rfl _ _ _) rfl ⟨HBZ.out, i, _, rfl, Nat.le_of_lt HI.out, HA.out, HB.out, ?_⟩
        rw [decide_eq_true HI.out, HD.out, Bool.true_and]
      · have i2 : ¬ (i : Int) < (n : Int) := by omega
        have HI := Lib.hid (And.intro hin hjn)
        clear hij hjn hlt hin
        go_wp2_with fail
        refine bodyPost_ret (v := .tuple #[.int .i64 (i : Int), .bool false]) (results_tmp2 (fn := Tryz.f78) (t := 6) (u := 7) rfl _ _ _) rfl ⟨HBW.out, i, _, rfl, HI.out.2, HA.out, HB.out, ?_⟩
        rw [decide_eq_false HI.out.1, Bool.false_and]
set_option maxRecDepth 100000 in
set_option maxHeartbeats 1000000 in
theorem find_any (oa : Option Addr) (n c : Nat) (X : Nat → LE) (s : ByteArray) (w : World) (hX : CK 5 w oa n (leC X)) (h32 : n ≤ 32) :
    Calls Tryz.prog 48 #[.slice oa n c, .string s] w (FindR n X s w) := by
  have HB := Lib.hid (bs_any oa n c X s w hX h32)
  clear hX
  go_enter Tryz.func48, Tryz.ntmps48
  go_wp2_with fail
  refine HB.out.mono ?_
  rintro e w1 ⟨hb, r, f, rfl, hR⟩
  have HR := Lib.hid (And.intro hb hR)
  clear hb hR
  go_wp2_with fail
  refine bodyPost_ret (v := .tuple #[.int .i64 (r : Int), .bool f]) (results_tmp2 (fn := Tryz.f48) (t := 4) (u := 5) rfl _ _ _) rfl ⟨HR.out.1, r, f, rfl, HR.out.2⟩
end Go.Proofs.YtgfjlgaleddoaaaGreatDoor
