/- What the law asks of whatever input: it returns true, and makes new memory alone. -/
import Derived.Test.YtnkbnlmbjbdmmaaSm1
import Derived.Lib.SlBytesConst
import Derived.Lib.SmallJoins
namespace Go.Proofs.Ytnkbnlmbjbdmmaa
set_option linter.unusedVariables false
set_option linter.unusedSimpArgs false
open Go.RowKit

/-- Bytes that lie in a block of their own. -/
theorem bytes_of {w : World} {b n : Nat} {f : Nat → Nat} (h : ∀ k, k < n → f k < 256 ∧ w.cell? ⟨b, k, none⟩ = some (.int .u8 (f k))) : Bytes w (some ⟨b, 0, none⟩) n f :=
  fun k hk => ⟨(h k hk).1, b, 0, rfl, by simpa using (h k hk).2⟩

theorem cell_new {w : World} {C : Array Value} {t : TypeId} {fr : Nat × Nat} {b k : Nat} (h : b = w.heap.size) : (w.alloc (.cells C t fr)).cell? ⟨b, k, none⟩ = C[k]? := by
  subst h; exact World.cell?_alloc_mark w C t fr k
theorem cell_old {w : World} {o : Obj} {b k : Nat} (h : b < w.heap.size) : (w.alloc o).cell? ⟨b, k, none⟩ = w.cell? ⟨b, k, none⟩ :=
  World.cell?_alloc_lt _ _ ⟨b, k, none⟩ h

def ab (k : Nat) : Nat := 97 + k

set_option maxHeartbeats 400000 in
theorem sure_any (w : World) :
    Calls Try.prog 5 #[] w fun e w' => e = .returned (.bool true) ∧ Below w.heap.size w w' := by
  have kc := fun (w : World) (C : Array Value) (n c g : Nat) (hg : g = w.heap.size) => Joins.run_convert_bytes_const_at (P := Try.prog) w 23 5 C n c g hg Try.underlying23 Try.underlying5
  go_enter Try.func5, Try.ntmps5
  go_wp2_with fail
  refine (equal_any _ _ 2 3 2 3 ab ab _ (by omega) (by omega) (bytes_of ?b1) (bytes_of ?b2)).mono ?_
  case b1 => intro k hk; match k, hk with | 0, _ => simp [cell_new, cell_old, ab] | 1, _ => simp [cell_new, cell_old, ab]
  case b2 => intro k hk; match k, hk with | 0, _ => simp [cell_new, cell_old, ab] | 1, _ => simp [cell_new, cell_old, ab] | 2, _ => simp [cell_new, cell_old, ab]
  rintro e w' ⟨rfl, rfl⟩
  rw [eqB_ne (by omega)]
  go_wp2_with fail
  refine (equal_any _ _ 2 2 2 2 ab ab _ (by omega) (by omega) (bytes_of ?b3) (bytes_of ?b4)).mono ?_
  case b3 => intro k hk; match k, hk with | 0, _ => simp [cell_new, cell_old, ab] | 1, _ => simp [cell_new, cell_old, ab]
  case b4 => intro k hk; match k, hk with | 0, _ => simp [cell_new, cell_old, ab] | 1, _ => simp [cell_new, cell_old, ab]
  rintro e w' ⟨rfl, rfl⟩
  rw [show eqB ab ab 2 2 = true from by simp [eqB]]
  go_wp2_with fail
  go_ret
  refine ⟨rfl, ?_⟩
  exact ((((Below.refl _ _).alloc (by simp) _).alloc (by simp) _).alloc (by simp; omega) _).alloc (by simp; omega) _


theorem conv_zero (oa : Option Addr) (cp : Nat) (w : World) : (convert 23 9 (.slice oa 0 cp)).run Try.prog w = .ok (.string (strF 0 (fun _ => 0))) w := by
  cases oa <;> kernel_rfl
theorem conv_any {oa : Option Addr} {n cp : Nat} {f : Nat → Nat} {w : World} (h : Bytes w oa n f) : (convert 23 9 (.slice oa n cp)).run Try.prog w = .ok (.string (strF n f)) w := by
  rcases Nat.eq_zero_or_pos n with h0 | h0
  · subst h0
    rw [strF_congr (f := f) (g := fun _ => 0) fun i hi => absurd hi (Nat.not_lt_zero _)]
    exact conv_zero oa cp w
  · exact conv_bytes Try.underlying23 Try.underlying5 Try.underlying9 h h0
/-- Are two texts the same? Just if the bytes are. -/
theorem str_eq {w w' : World} {oa ob : Option Addr} {n m : Nat} {f g : Nat → Nat} (hf : Bytes w oa n f) (hg : Bytes w' ob m g) : ((strF n f).toList == (strF m g).toList) = eqB f g n m := by
  unfold eqB
  rw [Bool.eq_iff_iff, beq_iff_eq, decide_eq_true_iff]
  constructor
  · intro h; exact strF_inj (fun i hi => (hf i hi).1) (fun i hi => (hg i hi).1) (Go.WideShapes.bytes_inj (by rw [← ByteArray.toList_eq, ← ByteArray.toList_eq]; exact h))
  · rintro ⟨rfl, h⟩; rw [strF_congr h]
set_option maxHeartbeats 400000 in
theorem requal_any (oa ob : Option Addr) (ca cb n m : Nat) (f g : Nat → Nat) (w : World) (hn : n ≤ 1000) (hm : m ≤ 1000) (hf : Bytes w oa n f) (hg : Bytes w ob m g) :
    Calls Try.prog 7 #[.slice oa n ca, .slice ob m cb] w fun e w' => e = .returned (.tuple #[.bool (eqB f g n m), .int .i64 (max n m : Nat)]) ∧ w = w' := by
  by_cases h : m < n
  · have h1 : (m : Int) < (n : Int) := by omega
    have He := Lib.hid (eqB_ne (f := f) (g := g) (show n ≠ m by omega))
    have Hm := Lib.hid (Nat.max_eq_left (show m ≤ n by omega))
    clear h hf hg
    go_enter Try.func7, Try.ntmps7
    go_wp2
    go_ret2
    exact ⟨by rw [He.out, Hm.out]; rfl, rfl⟩
  · have h1 : ¬ (m < n) := h
    have c1 := conv_any (cp := ca) hf
    have c2 := conv_any (cp := cb) hg
    have He := Lib.hid (str_eq hf hg)
    have Hm := Lib.hid (Nat.max_eq_right (show n ≤ m by omega))
    clear h hf hg
    generalize strF n f = s at *
    generalize strF m g = t at *
    go_enter Try.func7, Try.ntmps7
    go_wp2
    go_ret2
    exact ⟨by rw [← He.out, Hm.out]; rfl, rfl⟩

/-- Rows of bytes, one behind the other, as memory has them. -/
def Rows2 (w : World) (oa : Option Addr) (n : Nat) (L : Nat → Nat) (F : Nat → Nat → Nat) : Prop := ∀ i, i < n → ∃ b off od cap, oa = some ⟨b, off, none⟩ ∧ w.cell? ⟨b, off + i, none⟩ = some (.slice od (L i) cap) ∧ Bytes w od (L i) (F i)
theorem Rows2.later {w w' : World} {oa : Option Addr} {n : Nat} {L : Nat → Nat} {F : Nat → Nat → Nat} (h : Rows2 w oa n L F) (hb : Below w.heap.size w w') : Rows2 w' oa n L F := fun i hi => by
  obtain ⟨b, off, od, cap, h1, h2, h3⟩ := h i hi
  exact ⟨b, off, od, cap, h1, cell_below hb h2, h3.later hb⟩
/-- Where the last of so many is the same, or -1; the steps. -/
def placeF (L : Nat → Nat) (F : Nat → Nat → Nat) (m : Nat) (g : Nat → Nat) : Nat → Int
  | 0 => -1
  | k + 1 => if eqB (F k) g (L k) m then (k : Int) else placeF L F m g k
def stepsF (L : Nat → Nat) (m : Nat) : Nat → Nat
  | 0 => 0
  | k + 1 => stepsF L m k + max (L k) m
theorem stepsF_le {L : Nat → Nat} {m : Nat} (hm : m ≤ 500) : ∀ {k : Nat}, (∀ i, i < k → L i ≤ 500) → stepsF L m k ≤ k * 500
  | 0, _ => Nat.zero_le _
  | k + 1, h => by
    have h1 := stepsF_le hm (k := k) fun i hi => h i (by omega)
    have h2 := h k (by omega)
    have h3 : max (L k) m ≤ 500 := by omega
    unfold stepsF; omega

set_option maxRecDepth 100000 in
set_option maxHeartbeats 1000000 in
theorem find_any (oa ob : Option Addr) (ca cb n m : Nat) (L : Nat → Nat) (F : Nat → Nat → Nat) (g : Nat → Nat) (w : World) (hn : n ≤ 30) (hm : m ≤ 500) (hL : ∀ i, i < n → L i ≤ 500) (hr : Rows2 w oa n L F) (hg : Bytes w ob m g) :
    Calls Try.prog 8 #[.slice oa n ca, .slice ob m cb] w fun e w' => e = .returned (.tuple #[.int .i64 (placeF L F m g n), .int .i64 (stepsF L m n : Nat)]) ∧ w = w' := by
  have HR := Lib.hid hr
  have HG := Lib.hid hg
  have HL := Lib.hid hL
  clear hr hg hL
  go_enter Try.func8, Try.ntmps8
  go_wp2_with fail
  go_loop [6, 7, 14] (fun u v c => ∃ k : Nat, k ≤ n ∧ c = .int .i64 k ∧ u = .int .i64 (placeF L F m g k) ∧ v = .int .i64 (stepsF L m k : Nat)) (fun _ _ c => n - (intOf c).toNat)
  case atStart => exact ⟨0, by omega, rfl, rfl, rfl⟩
  case round =>
    obtain ⟨k, hk, rfl, rfl, rfl⟩ := hrel
    by_cases hlt : k < n
    · obtain ⟨b, off, od, cap, rfl, hc, hB⟩ := HR.out k hlt
      have i0 : (k : Int) < (n : Int) := by omega
      have i1 : (0 : Int) ≤ (k : Int) := by omega
      have s0 := stepsF_le hm (k := k) fun i hi => HL.out i (by omega)
      have lk := HL.out k hlt
      obtain ⟨sk, hsk⟩ : ∃ x, stepsF L m k = x := ⟨_, rfl⟩
      obtain ⟨pk, hpk⟩ : ∃ x, placeF L F m g k = x := ⟨_, rfl⟩
      obtain ⟨mk, hmk⟩ : ∃ x, max (L k) m = x := ⟨_, rfl⟩
      obtain ⟨bk, hbk⟩ : ∃ x, eqB (F k) g (L k) m = x := ⟨_, rfl⟩
      obtain ⟨sk1, hsk1⟩ : ∃ x, sk + mk = x := ⟨_, rfl⟩
      have e1 : stepsF L m (k + 1) = sk1 := by unfold stepsF; rw [hsk, hmk, hsk1]
      have e2 : placeF L F m g (k + 1) = if bk = true then (k : Int) else pk := by unfold placeF; rw [hbk, hpk]
      have hC := equal_any od ob cap cb (L k) m (F k) g w (by omega) (by omega) hB HG.out
      rw [hbk, hmk] at hC
      have t1 : (sk : Int) + (mk : Int) = (sk1 : Int) := by omega
      have t2 : (sk1 : Int) ≤ 100000 := by omega
      have C := Lib.hid hC
      have E1 := Lib.hid e1
      have E2 := Lib.hid e2
      rw [hsk, hpk]
      clear hC e1 e2 hsk hpk hmk hbk hsk1 s0 lk hB
      go_wp2_with fail
      refine C.out.mono ?_
      rintro e w' ⟨rfl, rfl⟩
      cases bk
      · go_wp2_with fail
        go_round
        case rel => exact ⟨k + 1, by omega, by go_num, by rw [E2.out]; rfl, by rw [E1.out]⟩
        case measure => simp [intOf]; omega
      · go_wp2_with fail
        go_round
        case rel => exact ⟨k + 1, by omega, by go_num, by rw [E2.out]; rfl, by rw [E1.out]⟩
        case measure => simp [intOf]; omega
    · obtain rfl : k = n := by omega
      have h1 : ¬ (k < k) := hlt
      clear hlt
      go_wp2_with fail
      go_ret2
      exact ⟨rfl, rfl⟩

set_option maxRecDepth 100000 in
set_option maxHeartbeats 1000000 in
theorem rfind_any (oa ob : Option Addr) (ca cb n m : Nat) (L : Nat → Nat) (F : Nat → Nat → Nat) (g : Nat → Nat) (w : World) (hn : n ≤ 30) (hm : m ≤ 500) (hL : ∀ i, i < n → L i ≤ 500) (hr : Rows2 w oa n L F) (hg : Bytes w ob m g) :
    Calls Try.prog 9 #[.slice oa n ca, .slice ob m cb] w fun e w' => e = .returned (.tuple #[.int .i64 (placeF L F m g n), .int .i64 (stepsF L m n : Nat)]) ∧ w = w' := by
  have HR := Lib.hid hr
  have HG := Lib.hid hg
  have HL := Lib.hid hL
  clear hr hg hL
  go_enter Try.func9, Try.ntmps9
  go_wp2_with fail
  go_loop [6, 7, 8] (fun u v c => ∃ k : Nat, k ≤ n ∧ c = .int .i64 k ∧ u = .int .i64 (placeF L F m g k) ∧ v = .int .i64 (stepsF L m k : Nat)) (fun _ _ c => n - (intOf c).toNat)
  case atStart => exact ⟨0, by omega, rfl, rfl, rfl⟩
  case round =>
    obtain ⟨k, hk, rfl, rfl, rfl⟩ := hrel
    by_cases hlt : k < n
    · obtain ⟨b, off, od, cap, rfl, hc, hB⟩ := HR.out k hlt
      have i0 : (k : Int) < (n : Int) := by omega
      have i1 : (0 : Int) ≤ (k : Int) := by omega
      have s0 := stepsF_le hm (k := k) fun i hi => HL.out i (by omega)
      have lk := HL.out k hlt
      obtain ⟨sk, hsk⟩ : ∃ x, stepsF L m k = x := ⟨_, rfl⟩
      obtain ⟨pk, hpk⟩ : ∃ x, placeF L F m g k = x := ⟨_, rfl⟩
      obtain ⟨mk, hmk⟩ : ∃ x, max (L k) m = x := ⟨_, rfl⟩
      obtain ⟨bk, hbk⟩ : ∃ x, eqB (F k) g (L k) m = x := ⟨_, rfl⟩
      obtain ⟨sk1, hsk1⟩ : ∃ x, sk + mk = x := ⟨_, rfl⟩
      have e1 : stepsF L m (k + 1) = sk1 := by unfold stepsF; rw [hsk, hmk, hsk1]
      have e2 : placeF L F m g (k + 1) = if bk = true then (k : Int) else pk := by unfold placeF; rw [hbk, hpk]
      have hC := requal_any od ob cap cb (L k) m (F k) g w (by omega) (by omega) hB HG.out
      rw [hbk, hmk] at hC
      have t1 : (sk : Int) + (mk : Int) = (sk1 : Int) := by omega
      have t2 : (sk1 : Int) ≤ 100000 := by omega
      have C := Lib.hid hC
      have E1 := Lib.hid e1
      have E2 := Lib.hid e2
      rw [hsk, hpk]
      clear hC e1 e2 hsk hpk hmk hbk hsk1 s0 lk hB
      go_wp2_with fail
      refine C.out.mono ?_
      rintro e w' ⟨rfl, rfl⟩
      cases bk
      · go_wp2_with fail
        go_round
        case rel => exact ⟨k + 1, by omega, by go_num, by rw [E2.out]; rfl, by rw [E1.out]⟩
        case measure => simp [intOf]; omega
      · go_wp2_with fail
        go_round
        case rel => exact ⟨k + 1, by omega, by go_num, by rw [E2.out]; rfl, by rw [E1.out]⟩
        case measure => simp [intOf]; omega
    · obtain rfl : k = n := by omega
      have h1 : ¬ (k < k) := hlt
      clear hlt
      go_wp2_with fail
      go_ret2
      exact ⟨rfl, rfl⟩
end Go.Proofs.Ytnkbnlmbjbdmmaa
