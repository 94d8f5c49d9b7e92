/- Lists held against one another, and how much is looked at; side by side. -/
import Derived.Test.YtcdeamokkbondaaDoorWi8
import Derived.Test.YtcdeamokkbondaaDoorWi2
namespace Go.Proofs.YtcdeamokkbondaaDoor
set_option linter.unusedVariables false
set_option linter.unusedSimpArgs false
open Go.RowKit

theorem LBs.later {w w' : World} {oa : Option Addr} {n : Nat} {L : Nat → Nat} {G : Nat → Nat → Nat} (h : LBs w oa n L G) (hb : Below w.heap.size w w') : LBs w' oa n L G := fun i hi => by
  obtain ⟨b, off, od, cp, h1, h2, h3, h4, h5, h6⟩ := h i hi
  exact ⟨b, off, od, cp, h1, cell_below hb h2, h3, h4.later hb, h5, h6⟩
theorem LBs.congr {w : World} {oa : Option Addr} {n : Nat} {L L' : Nat → Nat} {G G' : Nat → Nat → Nat} (h : LBs w oa n L G) (hl : ∀ i, i < n → L i = L' i) (hg : ∀ i, i < n → ∀ k, k < L i → G i k = G' i k) : LBs w oa n L' G' := fun i hi => by
  obtain ⟨b, off, od, cp, h1, h2, h3, h4, h5, h6⟩ := h i hi
  rw [hl i hi] at h2 h3 h5
  refine ⟨b, off, od, cp, h1, h2, h3, fun k hk => ?_, h5, h6⟩
  obtain ⟨g1, g2⟩ := h4 k (by rw [hl i hi]; exact hk)
  rw [hg i hi k (by rw [hl i hi]; exact hk)] at g1 g2
  exact ⟨g1, g2⟩
theorem LBs.zero (w : World) (oa : Option Addr) (L : Nat → Nat) (G : Nat → Nat → Nat) : LBs w oa 0 L G := fun i hi => absurd hi (Nat.not_lt_zero _)
/-- A row of bytes that reads as a string. -/
def CV (w : World) (o : Option Addr) (m : Nat) (S : ByteArray) : Prop := ∃ F, Bytes w o m F ∧ (o = none → m = 0) ∧ strF m F = S
theorem CV.later {w w' : World} {o : Option Addr} {m : Nat} {S : ByteArray} (h : CV w o m S) (hb : Below w.heap.size w w') : CV w' o m S := by
  obtain ⟨F, h1, h2, h3⟩ := h; exact ⟨F, h1.later hb, h2, h3⟩
theorem CV.conv {w : World} {o : Option Addr} {m c : Nat} {S : ByteArray} (h : CV w o m S) : (convert 23 9 (.slice o m c)).run Tryd.prog w = .ok (.string S) w := by
  obtain ⟨F, h1, h2, rfl⟩ := h; exact conv_any h1 h2
theorem CV.none (w : World) : CV w none 0 ⟨#[]⟩ := ⟨fun _ => 0, fun k hk => absurd hk (Nat.not_lt_zero _), fun _ => rfl, rfl⟩
/-- An error and its number. -/
def Er (v : Value) (k : Nat) : Prop := (v = .nilIface ∧ k = 0) ∨ v = .iface 48 (.int .i64 (k : Nat))
theorem er_any (v : Value) (k : Nat) (w : World) (h : Er v k) (hh : Handle w) : Calls Tryd.prog 14 #[v] w fun e w' => e = .returned (.int .i64 (k : Nat)) ∧ Below w.heap.size w w' := by
  rcases h with ⟨rfl, rfl⟩ | rfl
  · exact num_nil w
  · exact num_err (k : Nat) w hh
def BigA (q : Nat) (L : Nat → Nat) (w0 : World) (e : Ending) (w' : World) : Prop :=
  Below w0.heap.size w0 w' ∧ (e = .returned (.bool true) ∨ (e = .returned (.bool false) ∧ q ≤ 40 ∧ ∀ i, i < q → L i ≤ 3000))
set_option maxRecDepth 100000 in
set_option maxHeartbeats 8000000 in
theorem big_any (op : Option Addr) (q cq : Nat) (L : Nat → Nat) (G : Nat → Nat → Nat) (w : World) (hL : LBs w op q L G) (hq : q ≤ maxLen) :
    Calls Tryd.prog 6 #[.slice op q cq] w (BigA q L w) := by
  unfold maxLen at hq
  have HLB : Hid (∀ w', Below w.heap.size w w' → LBs w' op q L G) := Lib.hid fun w' h => hL.later h
  clear hL
  have hq0 : (q : Int) ≤ 9223372036854775807 := by omega
  go_enter Tryd.func6, Tryd.ntmps6
  go_wp2_with fail
  go_loopw [3, 4] (fun x v wr => ∃ i s : Nat, i ≤ q ∧ i ≤ 40 ∧ s ≤ 3000 ∧ v = .int .i64 (i : Int) ∧ x = .int .i64 (s : Int) ∧ (∀ j, j < i → L j ≤ s) ∧ Below w.heap.size w wr) (fun _ v _ => 40 - (intOf v).toNat)
  case atStart => exact ⟨0, 0, Nat.zero_le _, by omega, by omega, rfl, rfl, fun j hj => absurd hj (Nat.not_lt_zero _), Below.refl _ _⟩
  case round =>
    obtain ⟨i, s, hi, hi4, hs, rfl, rfl, hJ, hX⟩ := hrel
    have HX := Lib.hid hX
    have HJ := Lib.hid hJ
    have HI4 := Lib.hid hi4
    have HS := Lib.hid hs
    by_cases hli : i < q
    · have i1 : (i : Int) < (q : Int) := by omega
      by_cases h40 : i < 40
      · as_aux_lemma =>
        have i2 : (i : Int) < 40 := by omega
        have i0 : (0 : Int) ≤ (i : Int) := by omega
        have HI : Hid (i < q ∧ i < 40) := Lib.hid ⟨hli, h40⟩
        obtain ⟨b, off, od, cp, rfl, hc, hlc, _, _, hcm⟩ := HLB.out wr HX.out i hli
        unfold maxLen at hcm
        obtain ⟨x, hx⟩ : ∃ x, L i = x := ⟨_, rfl⟩
        obtain ⟨j2, hj2⟩ : ∃ z, i + 1 = z := ⟨_, rfl⟩
        rw [hx] at hc hlc
        have c0 : wr.cell? ⟨b, off + i, none⟩ = some (.slice od x cp) := hc
        have k3 : (i : Int) + 1 = (j2 : Int) := by omega
        have k4 : IntKind.i64.wrap (j2 : Int) = (j2 : Int) := IntWalk.i64_in _ (by omega)
        have k5 : (x : Int) ≤ 9223372036854775807 := by omega
        have HXX : Hid (L i = x ∧ i + 1 = j2) := Lib.hid ⟨hx, hj2⟩
        have h3c : (x : Int) < 5000 ∨ (x : Int) = 5000 ∨ 5000 < (x : Int) := by omega
        clear hc hlc hcm hx hj2 hli h40 hJ hi hi4 hX
        rcases h3c with hx1 | hx1 | hx1
        · obtain ⟨s2, hs2⟩ : ∃ z, s + x = z := ⟨_, rfl⟩
          have HS2 := Lib.hid hs2
          have k1 : (s : Int) + (x : Int) = (s2 : Int) := by omega
          have k2 : IntKind.i64.wrap (s2 : Int) = (s2 : Int) := IntWalk.i64_in _ (by omega)
          have hc3 : (3000 : Int) < (s2 : Int) ∨ ¬ (3000 : Int) < (s2 : Int) := by omega
          have k6 : min (x : Int) 5000 = (x : Int) := by omega
          clear hs2 hs
          rcases hc3 with g | g
          · go_wp2_with fail
            go_ret
            exact ⟨HX.out, .inl rfl⟩
          · have HG := Lib.hid g
            go_wp2_with fail
            go_roundw
            case rel => exact ⟨j2, s2, by have := HI.out; have := HXX.out; omega, by have := HI.out; have := HXX.out; omega, by have := HG.out; omega, by first | rfl | go_num, by first | rfl | go_num, fun j hj => by
              obtain ⟨e1, e4⟩ := HXX.out
              have e3 := HS2.out
              have h9 := HG.out
              by_cases e : j < i
              · have := HJ.out j e; omega
              · obtain rfl : j = i := by omega
                omega, HX.out⟩
            case measure => have := HI.out; have := HXX.out; simp [intOf] <;> omega
        · have k1 : (s : Int) + 5000 = ((s + 5000 : Nat) : Int) := by omega
          have k6 : min (x : Int) 5000 = 5000 := by omega
          have k2 : IntKind.i64.wrap ((s : Int) + 5000) = (s : Int) + 5000 := IntWalk.i64_in _ (by omega)
          have k7 : (3000 : Int) < (s : Int) + 5000 := by omega
          clear k1 hs
          go_wp2_with fail
          go_ret
          exact ⟨HX.out, .inl rfl⟩
        · have k1 : (s : Int) + 5000 = ((s + 5000 : Nat) : Int) := by omega
          have k6 : min (x : Int) 5000 = 5000 := by omega
          have k2 : IntKind.i64.wrap ((s : Int) + 5000) = (s : Int) + 5000 := IntWalk.i64_in _ (by omega)
          have k7 : (3000 : Int) < (s : Int) + 5000 := by omega
          clear k1 hs
          go_wp2_with fail
          go_ret
          exact ⟨HX.out, .inl rfl⟩
      · have i2 : ¬ (i : Int) < 40 := by omega
        obtain rfl : i = 40 := by omega
        have hc4 : (40 : Int) < (q : Int) := by omega
        clear hli h40 hJ hi hi4 hs hX
        go_wp2_with fail
        go_ret
        exact ⟨HX.out, .inl rfl⟩
    · obtain rfl : i = q := by omega
      have i1 : ¬ (i : Int) < (i : Int) := by omega
      have hc4 : ¬ (40 : Int) < (i : Int) := by omega
      clear hli hJ hi hi4 hs hX
      go_wp2_with fail
      go_ret
      exact ⟨HX.out, .inr ⟨rfl, HI4.out, fun j hj => Nat.le_trans (HJ.out j hj) HS.out⟩⟩
set_option maxRecDepth 100000 in
set_option maxHeartbeats 8000000 in
theorem lists_any (oa ob : Option Addr) (n ca cb : Nat) (L : Nat → Nat) (G : Nat → Nat → Nat) (w : World) (hA : LBs w oa n L G) (hB : LBs w ob n L G) (hn : n ≤ maxLen) :
    Calls Tryd.prog 15 #[.slice oa n ca, .slice ob n cb] w fun e w' => e = .returned (.bool true) ∧ Below w.heap.size w w' := by
  unfold maxLen at hn
  have HA : Hid (∀ w', Below w.heap.size w w' → LBs w' oa n L G ∧ LBs w' ob n L G) := Lib.hid fun w' h => ⟨hA.later h, hB.later h⟩
  clear hA hB
  have hq0 : (n : Int) ≤ 9223372036854775807 := by omega
  go_enter Tryd.func15, Tryd.ntmps15
  go_wp2_with fail
  go_loopw [5] (fun v wr => ∃ i : Nat, i ≤ n ∧ v = .int .i64 (i : Int) ∧ Below w.heap.size w wr) (fun v _ => n - (intOf v).toNat)
  case atStart => exact ⟨0, Nat.zero_le _, rfl, Below.refl _ _⟩
  case round =>
    obtain ⟨i, hi, rfl, hX⟩ := hrel
    have HX : Hid (Below w.heap.size w wr) := Lib.hid hX
    by_cases hli : i < n
    · as_aux_lemma =>
      have i1 : (i : Int) < (n : Int) := by omega
      have i0 : (0 : Int) ≤ (i : Int) := by omega
      have HI : Hid (i < n) := Lib.hid hli
      obtain ⟨h1, h2⟩ := HA.out wr.drew HX.out.drew
      obtain ⟨b, off, od, cp, rfl, c1, _, hb1, hd1, _⟩ := h1 i hli
      obtain ⟨b2, off2, od2, cp2, rfl, c2, _, hb2, hd2, _⟩ := h2 i hli
      obtain ⟨j2, hj2⟩ : ∃ z, i + 1 = z := ⟨_, rfl⟩
      have HJ2 := Lib.hid hj2
      have k3 : (i : Int) + 1 = (j2 : Int) := by omega
      have k4 : IntKind.i64.wrap (j2 : Int) = (j2 : Int) := IntWalk.i64_in _ (by omega)
      have HC1 := Lib.hid (conv_any (cap := cp) hb1 hd1)
      have HC2 := Lib.hid (conv_any (cap := cp2) hb2 hd2)
      have H0 : Hid (Below w.heap.size w wr.drew) := Lib.hid HX.out.drew
      clear h1 h2 hj2 hli hi hX HX hb1 hb2 hd1 hd2
      generalize hS : strF (L i) (G i) = S at *
      clear hS
      go_wp2_with fail
      refine WS.lit (by kernel_rfl) (by kernel_rfl) ?_
      generalize wr.drew = W1 at *
      refine WS.val (v := ?_) (by kernel_rfl) ?_ ?_
      rotate_left
      · go_simp
        (try with_reducible rfl)
      (try simp only [Act.put, List.setIfInBounds_toArray, List.set_cons_zero, List.set_cons_succ])
      refine WS.val (v := ?_) (by kernel_rfl) ?_ ?_
      rotate_left
      · go_simp
        (try with_reducible rfl)
      (try simp only [Act.put, List.setIfInBounds_toArray, List.set_cons_zero, List.set_cons_succ])
      refine WS.val (v := ?_) (by kernel_rfl) ?_ ?_
      rotate_left
      · go_simp
        (try with_reducible rfl)
      (try simp only [Act.put, List.setIfInBounds_toArray, List.set_cons_zero, List.set_cons_succ])
      refine WS.val (v := ?_) (by kernel_rfl) ?_ ?_
      rotate_left
      · go_simp
        (try with_reducible rfl)
      (try simp only [Act.put, List.setIfInBounds_toArray, List.set_cons_zero, List.set_cons_succ])
      refine WS.val (by kernel_rfl) (exec_convO (x := .tmp 20) rfl rfl HC1.out) ?_
      (try simp only [Act.put, List.setIfInBounds_toArray, List.set_cons_zero, List.set_cons_succ])
      refine WS.val (v := ?_) (by kernel_rfl) ?_ ?_
      rotate_left
      · go_simp
        (try with_reducible rfl)
      (try simp only [Act.put, List.setIfInBounds_toArray, List.set_cons_zero, List.set_cons_succ])
      refine WS.val (v := ?_) (by kernel_rfl) ?_ ?_
      rotate_left
      · go_simp
        (try with_reducible rfl)
      (try simp only [Act.put, List.setIfInBounds_toArray, List.set_cons_zero, List.set_cons_succ])
      refine WS.val (v := ?_) (by kernel_rfl) ?_ ?_
      rotate_left
      · go_simp
        (try with_reducible rfl)
      (try simp only [Act.put, List.setIfInBounds_toArray, List.set_cons_zero, List.set_cons_succ])
      refine WS.val (v := ?_) (by kernel_rfl) ?_ ?_
      rotate_left
      · go_simp
        (try with_reducible rfl)
      (try simp only [Act.put, List.setIfInBounds_toArray, List.set_cons_zero, List.set_cons_succ])
      refine WS.val (by kernel_rfl) (exec_convO (x := .tmp 25) rfl rfl HC2.out) ?_
      (try simp only [Act.put, List.setIfInBounds_toArray, List.set_cons_zero, List.set_cons_succ])
      refine WS.val (v := ?_) (by kernel_rfl) ?_ ?_
      rotate_left
      · go_simp
        (try with_reducible rfl)
      (try simp only [Act.put, List.setIfInBounds_toArray, List.set_cons_zero, List.set_cons_succ])
      refine WS.nil ?_
      go_wp2_with fail
      go_roundw
      case rel => exact ⟨j2, by have := HI.out; have := HJ2.out; omega, by first | rfl | go_num, H0.out⟩
      case measure => have := HI.out; have := HJ2.out; simp [intOf] <;> omega
    · obtain rfl : i = n := by omega
      have i1 : ¬ (i : Int) < (i : Int) := by omega
      clear hli hi hX
      go_wp2_with fail
      go_ret
      exact ⟨rfl, HX.out⟩
/-- The program and the document, side by side. -/
theorem enc_pair (op : Option Addr) (q cq : Nat) (L : Nat → Nat) (G : Nat → Nat → Nat) (hq : q ≤ maxLen) (hl : ∀ i, i < q → L i ≤ 100000) :
    ∃ (S : ByteArray) (k : Nat), (∀ w, LBs w op q L G → Calls Tryd.prog 8 #[.slice op q cq] w fun e w' => ∃ o m c v, e = .returned (.tuple #[.slice o m c, v]) ∧ CV w' o m S ∧ Er v k ∧ Below w.heap.size w w') ∧
      (∀ w, LBs w op q L G → Calls Tryd.prog 9 #[.slice op q cq] w fun e w' => ∃ o m c, e = .returned (.tuple #[.slice o m c, .int .i64 (k : Nat)]) ∧ CV w' o m S ∧ Below w.heap.size w w') := by
  by_cases h : q ≤ 16 ∧ wl L q ≤ 1024
  · refine ⟨strF (wl L q) (wf q L G q), 0, fun w hw => ?_, fun w hw => ?_⟩
    · refine (enc_any op q cq L G w hw hq hl).mono ?_
      rintro e w' ⟨hb, ⟨_, _, o, c, rfl, hB, _, _⟩ | ⟨hbad, _⟩⟩
      · exact ⟨some o, _, c, _, rfl, ⟨_, hB, fun e => (by cases e), rfl⟩, .inl ⟨rfl, rfl⟩, hb⟩
      · exfalso; omega
    · refine (renc_any op q cq L G w hw hq hl).mono ?_
      rintro e w' ⟨hb, ⟨_, _, o, c, rfl, hB, _, _⟩ | ⟨hbad, _⟩⟩
      · exact ⟨some o, _, c, rfl, ⟨_, hB, fun e => (by cases e), rfl⟩, hb⟩
      · exfalso; omega
  · refine ⟨⟨#[]⟩, 3, fun w hw => ?_, fun w hw => ?_⟩
    · refine (enc_any op q cq L G w hw hq hl).mono ?_
      rintro e w' ⟨hb, ⟨h1, h2, _⟩ | ⟨_, rfl⟩⟩
      · exact absurd ⟨h1, h2⟩ h
      · exact ⟨none, 0, 0, _, rfl, CV.none _, .inr rfl, hb⟩
    · refine (renc_any op q cq L G w hw hq hl).mono ?_
      rintro e w' ⟨hb, ⟨h1, h2, _⟩ | ⟨_, rfl⟩⟩
      · exact absurd ⟨h1, h2⟩ h
      · exact ⟨none, 0, 0, rfl, CV.none _, hb⟩
theorem dec_pair (ob : Option Addr) (n cap : Nat) (B : Nat → Nat) (hc : n ≤ cap) (hm : cap ≤ maxLen) :
    ∃ (m : Nat) (L : Nat → Nat) (G : Nat → Nat → Nat) (k : Nat), m ≤ 16 ∧ (∀ w, Bytes w ob n B → Calls Tryd.prog 10 #[.slice ob n cap] w fun e w' => ∃ o c v, e = .returned (.tuple #[.slice o m c, v]) ∧ LBs w' o m L G ∧ Er v k ∧ Below w.heap.size w w') ∧
      (∀ w, Bytes w ob n B → Calls Tryd.prog 11 #[.slice ob n cap] w fun e w' => ∃ o c, e = .returned (.tuple #[.slice o m c, .int .i64 (k : Nat)]) ∧ LBs w' o m L G ∧ Below w.heap.size w w') := by
  by_cases h : Fits n B
  · refine ⟨B 0, fl B, dG B, 0, h.2.2.1, fun w hw => ?_, fun w hw => ?_⟩
    · refine (dec_any ob n cap B w hw hc hm).mono ?_
      rintro e w' ⟨hb, ⟨_, oa, c, rfl, hB, _⟩ | ⟨h1, _⟩ | ⟨_, h1, _⟩⟩
      · exact ⟨oa, c, _, rfl, hB, .inl ⟨rfl, rfl⟩, hb⟩
      · have := h.2.1; exfalso; omega
      · exact absurd h h1
    · refine (rdec_any ob n cap B w hw hc hm).mono ?_
      rintro e w' ⟨hb, ⟨_, oa, c, rfl, hB, _⟩ | ⟨h1, _⟩ | ⟨_, h1, _⟩⟩
      · exact ⟨oa, c, rfl, hB, hb⟩
      · have := h.2.1; exfalso; omega
      · exact absurd h h1
  · by_cases h2 : 1024 < n
    · refine ⟨0, fl B, dG B, 3, by omega, fun w hw => ?_, fun w hw => ?_⟩
      · refine (dec_any ob n cap B w hw hc hm).mono ?_
        rintro e w' ⟨hb, ⟨h1, _⟩ | ⟨_, rfl⟩ | ⟨h1, _, _⟩⟩
        · exact absurd h1 h
        · exact ⟨none, 0, _, rfl, LBs.zero _ _ _ _, .inr rfl, hb⟩
        · exfalso; omega
      · refine (rdec_any ob n cap B w hw hc hm).mono ?_
        rintro e w' ⟨hb, ⟨h1, _⟩ | ⟨_, rfl⟩ | ⟨h1, _, _⟩⟩
        · exact absurd h1 h
        · exact ⟨none, 0, rfl, LBs.zero _ _ _ _, hb⟩
        · exfalso; omega
    · refine ⟨0, fl B, dG B, 4, by omega, fun w hw => ?_, fun w hw => ?_⟩
      · refine (dec_any ob n cap B w hw hc hm).mono ?_
        rintro e w' ⟨hb, ⟨h1, _⟩ | ⟨h1, _⟩ | ⟨_, _, rfl⟩⟩
        · exact absurd h1 h
        · exact absurd h1 h2
        · exact ⟨none, 0, _, rfl, LBs.zero _ _ _ _, .inr rfl, hb⟩
      · refine (rdec_any ob n cap B w hw hc hm).mono ?_
        rintro e w' ⟨hb, ⟨h1, _⟩ | ⟨h1, _⟩ | ⟨_, _, rfl⟩⟩
        · exact absurd h1 h
        · exact absurd h1 h2
        · exact ⟨none, 0, rfl, LBs.zero _ _ _ _, hb⟩
theorem read_pair (ob : Option Addr) (n cap : Nat) (F : Nat → Nat) (hn : n ≤ maxLen) :
    ∃ (x k : Nat), (∀ w, Bytes w ob n F → Calls Tryd.prog 12 #[.slice ob n cap] w fun e w' => ∃ v, e = .returned (.tuple #[.int .u64 (x : Nat), v]) ∧ Er v k ∧ Below w.heap.size w w') ∧
      (∀ w, Bytes w ob n F → Calls Tryd.prog 13 #[.slice ob n cap] w fun e w' => e = .returned (.tuple #[.int .u64 (x : Nat), .int .i64 (k : Nat)]) ∧ Below w.heap.size w w') := by
  by_cases h : n = 8
  · refine ⟨rdN F 8, 0, fun w hw => ?_, fun w hw => ?_⟩
    · refine (read_any ob n cap F w hw hn).mono ?_
      rintro e w' ⟨hb, ⟨_, rfl⟩ | ⟨h1, _⟩⟩
      · exact ⟨_, rfl, .inl ⟨rfl, rfl⟩, hb⟩
      · exact absurd h h1
    · refine (rread_any ob n cap F w hw hn).mono ?_
      rintro e w' ⟨hb, ⟨_, rfl⟩ | ⟨h1, _⟩⟩
      · exact ⟨rfl, hb⟩
      · exact absurd h h1
  · refine ⟨0, 4, fun w hw => ?_, fun w hw => ?_⟩
    · refine (read_any ob n cap F w hw hn).mono ?_
      rintro e w' ⟨hb, ⟨h1, _⟩ | ⟨_, rfl⟩⟩
      · exact absurd h1 h
      · exact ⟨_, rfl, .inr rfl, hb⟩
    · refine (rread_any ob n cap F w hw hn).mono ?_
      rintro e w' ⟨hb, ⟨h1, _⟩ | ⟨_, rfl⟩⟩
      · exact absurd h1 h
      · exact ⟨rfl, hb⟩
theorem num_pair (n : Nat) (hn : n < 18446744073709551616) :
    ∃ S : ByteArray, (∀ w, Calls Tryd.prog 16 #[.int .u64 (n : Int)] w fun e w' => ∃ o c, e = .returned (.slice o 8 c) ∧ CV w' o 8 S ∧ Below w.heap.size w w') ∧
      (∀ w, Calls Tryd.prog 17 #[.int .u64 (n : Int)] w fun e w' => ∃ o c, e = .returned (.slice o 8 c) ∧ CV w' o 8 S ∧ Below w.heap.size w w') := by
  refine ⟨strF 8 (numB n 8), fun w => ?_, fun w => ?_⟩
  · refine (num_any n w hn).mono ?_
    rintro e w' ⟨hb, a, c, rfl, hB, _⟩
    exact ⟨some a, c, rfl, ⟨_, hB, fun e => (by cases e), rfl⟩, hb⟩
  · refine (rnum_any n w hn).mono ?_
    rintro e w' ⟨hb, a, c, rfl, hB, _⟩
    exact ⟨some a, c, rfl, ⟨_, hB, fun e => (by cases e), rfl⟩, hb⟩
end Go.Proofs.YtcdeamokkbondaaDoor
