/- packed.Hex: bytes' digits. -/
import Derived.Test.YtmhofofidmbgfaaDoorBld
namespace Go.Proofs.YtmhofofidmbgfaaDoor
set_option linter.unusedVariables false
set_option linter.unusedSimpArgs false
open Go.RowKit

def digS : ByteArray := ⟨#[48, 49, 50, 51, 52, 53, 54, 55, 56, 57, 97, 98, 99, 100, 101, 102]⟩
/-- The digit of a number below 16. -/
def hexD (k : Nat) : Nat := if k < 10 then 48 + k else 87 + k
theorem hexD_lt (k : Nat) (h : k < 16) : hexD k < 256 := by unfold hexD; split <;> omega
theorem hexD_inj {a b : Nat} (ha : a < 16) (hb : b < 16) (h : hexD a = hexD b) : a = b := by
  unfold hexD at h
  split at h <;> split at h <;> omega
def hexF (F : Nat → Nat) : Nat → Nat := fun i => hexD (if i % 2 = 0 then F (i / 2) / 16 else F (i / 2) % 16)
theorem hexF_lt {n : Nat} {F : Nat → Nat} (hF : ∀ i, i < n → F i < 256) : ∀ i, i < 2 * n → hexF F i < 256 := fun i hi => by
  have := hF (i / 2) (by omega)
  refine hexD_lt _ ?_
  split <;> omega

theorem dig_at (k : Nat) (hk : k < 16) : ((digS[k]'hk).toNat : Int) = (hexD k : Int) := by
  have h : (List.range 16).all (fun k => (digS.data.toList.getD k 0).toNat == hexD k) = true := by kernel_rfl
  have := List.all_eq_true.1 h k (List.mem_range.2 hk)
  have e : digS.data.toList.getD k 0 = digS[k]'hk := by
    rw [List.getD_eq_getElem?_getD, List.getElem?_eq_getElem (show k < digS.data.toList.length from hk)]
    rfl
  rw [e] at this
  rw [beq_iff_eq.1 this]

theorem exec_dig {o : Oper} {a : Act} {w : World} {y : Operand} {kk : IntKind} {k : Nat} (ho : o.op = .index 9 (.const (.string ⟨#[48, 49, 50, 51, 52, 53, 54, 55, 56, 57, 97, 98, 99, 100, 101, 102]⟩)) y) (hy : a.eval y = .int kk (k : Int)) (hk : k < 16) :
    (execOp a.eval o).run Tryd.prog w = .ok (.value (.int .u8 (hexD k : Nat))) w := by
  have hr := run_index_string (P := Tryd.prog) w 9 digS kk (k : Int) Tryd.underlying9
  rw [dif_pos (show (0 : Int) ≤ (k : Int) ∧ (k : Int) < (digS.size : Int) from ⟨by omega, by show (k : Int) < 16; omega⟩)] at hr
  have hx : a.eval (.const (.string ⟨#[48, 49, 50, 51, 52, 53, 54, 55, 56, 57, 97, 98, 99, 100, 101, 102]⟩)) = .string digS := rfl
  unfold execOp
  simp only [ho, hx, hy, Sem.run_bind, hr, Result.andThen_ok]
  rw [← dig_at k hk]
  rfl

theorem and15 (x : Nat) (hx : x < 256) : bits .and .u8 (x : Int) 15 = ((x % 16 : Nat) : Int) := by
  have h : (List.range 256).all (fun x => bits .and .u8 (x : Int) 15 == ((x % 16 : Nat) : Int)) = true := by kernel_rfl
  exact beq_iff_eq.1 (List.all_eq_true.1 h x (List.mem_range.2 hx))

theorem hexF_step (F : Nat → Nat) (i : Nat) : ∀ k, k < 2 * (i + 1) → catF (2 * i + 1) (catF (2 * i) (hexF F) (fun _ => hexD (F i / 16))) (fun _ => hexD (F i % 16)) k = hexF F k := fun k hk => by
  unfold catF
  by_cases h1 : k < 2 * i
  · rw [if_pos (by omega), if_pos h1]
  · by_cases h2 : k < 2 * i + 1
    · rw [if_pos h2, if_neg h1]
      obtain rfl : k = 2 * i := by omega
      unfold hexF
      rw [if_pos (by omega), show 2 * i / 2 = i by omega]
    · rw [if_neg h2]
      obtain rfl : k = 2 * i + 1 := by omega
      unfold hexF
      rw [if_neg (by omega), show (2 * i + 1) / 2 = i by omega]

set_option maxHeartbeats 4000000 in
set_option maxRecDepth 100000 in
theorem hx_any (n cap : Nat) (oa : Option Addr) (F : Nat → Nat) (w : World) (hB : Bytes w oa n F) (h1 : 1 ≤ n) (hn : n < 1000000) :
    Calls Tryd.prog 50 #[.slice oa n cap] w fun e w' => e = .returned (.string (strF (2 * n) (hexF F))) ∧ Below w.heap.size w w' := by
  obtain ⟨_, b, off, rfl, _⟩ := hB 0 (by omega)
  obtain ⟨b3, hb3⟩ : ∃ y, w.heap.size = y := ⟨_, rfl⟩
  have HS := Lib.hid hb3
  obtain ⟨w0, hw0⟩ : ∃ y, w.alloc (.cells #[.pointer none, .slice none 0 0] 133) = y := ⟨_, rfl⟩
  have HB0 : Hid (Below w.heap.size w w0) := Lib.hid (by rw [← hw0]; exact (Below.refl _ _).alloc (Nat.le_refl _) _)
  have HL0 : Hid (BlS w0 b3 (.slice none 0 0) 0 (hexF F)) := Lib.hid (by rw [← hw0, ← hb3]; exact BlS.new _ _)
  have HB := Lib.hid hB
  have HN := Lib.hid (show 1 ≤ n ∧ n < 1000000 from ⟨h1, hn⟩)
  obtain ⟨S, hS⟩ : ∃ y, strF (2 * n) (hexF F) = y := ⟨_, rfl⟩
  rw [hS]
  have HSS := Lib.hid hS
  clear hB h1 hn hS
  go_enter Tryd.func50, Tryd.ntmps50
  rw [hb3]
  go_wp2_with fail
  clear hw0
  go_loopw [8] (fun y wr => ∃ (i : Nat) (v : Value), i ≤ n ∧ y = .int .i64 (i : Int) ∧ BlS wr b3 v (2 * i) (hexF F) ∧ Below b3 w wr) (fun y _ => n - (intOf y).toNat)
  case atStart => exact ⟨0, _, Nat.zero_le _, rfl, HL0.out, HS.out ▸ HB0.out⟩
  case round =>
    obtain ⟨i, v, hi, rfl, hL, hW⟩ := hrel
    by_cases hlt : i < n
    · have i0 : (0 : Int) ≤ (i : Int) ∧ (i : Int) < (n : Int) := by omega
      have x0 : wr.cell? ⟨b, off + i, none⟩ = some (.int .u8 (F i : Int)) := by
        obtain ⟨_, b', o', e, h⟩ := HB.out i hlt
        cases e
        have hbb : b < b3 := by rw [← HS.out]; exact HB.out.lt _ rfl (by have := HN.out; omega)
        exact cell_belowB hW hbb h
      have hx := (HB.out i hlt).1
      obtain ⟨x, ex⟩ : ∃ y, F i = y := ⟨_, rfl⟩
      rw [ex] at x0 hx
      obtain ⟨hh, eh⟩ : ∃ y, x / 16 = y := ⟨_, rfl⟩
      obtain ⟨ll, el⟩ : ∃ y, x % 16 = y := ⟨_, rfl⟩
      have d1 : (x : Int) / 16 = (hh : Int) := by omega
      have d2 : bits .and .u8 (x : Int) 15 = (ll : Int) := by rw [and15 x hx, el]
      have hh16 : hh < 16 := by omega
      have hl16 : ll < 16 := by omega
      have HL := Lib.hid hL
      have HW := Lib.hid hW
      have HE := Lib.hid (show F i = x ∧ x / 16 = hh ∧ x % 16 = ll from ⟨ex, eh, el⟩)
      clear hL hW ex eh el hx
      go_wp2_with (first
        | (refine wpList_value rfl (exec_dig (y := .tmp 13) rfl rfl hh16) ?_)
        | (go_at_call 65; refine (writeb_any b3 (2 * i) (hexD hh) v (hexF F) _ HL.out (hexD_lt _ hh16) (by have := HN.out; omega)).mono ?_; refine Hid.out ?_))
      refine Lib.hid ?_
      rintro e w1 ⟨rfl, ⟨v1, hL1⟩, hb1⟩
      have HL1 := Lib.hid hL1
      have HW1 := Lib.hid (HW.out.trans hb1)
      clear hL1 hb1 HL
      go_wp2_with (first
        | (refine wpList_value rfl (exec_dig (y := .tmp 17) rfl rfl hl16) ?_)
        | (go_at_call 65; refine (writeb_any b3 (2 * i + 1) (hexD ll) v1 _ _ HL1.out (hexD_lt _ hl16) (by have := HN.out; omega)).mono ?_; refine Hid.out ?_))
      refine Lib.hid ?_
      rintro e w2 ⟨rfl, ⟨v2, hL2⟩, hb2⟩
      have HL2 : Hid (BlS w2 b3 v2 (2 * (i + 1)) (hexF F)) := Lib.hid (by
        obtain ⟨e1, e2, e3⟩ := HE.out
        subst e2 e3
        rw [← e1] at hL2
        exact hL2.congr (hexF_step F i))
      have HW2 := Lib.hid (HW1.out.trans hb2)
      clear hL2 hb2
      have hnb := HN.out.2
      go_wp2_with fail
      go_roundw
      case rel => exact ⟨i + 1, v2, by omega, by go_num, HL2.out, HW2.out⟩
      case measure => simp [intOf]; omega
    · obtain rfl : n = i := by omega
      have HW := Lib.hid hW
      have HST := Lib.hid (bstr_any b3 (2 * n) v (hexF F) wr hL (by have := HN.out; omega))
      rw [HSS.out] at HST
      clear hL hW
      go_wp2_with fail
      refine HST.out.mono ?_
      rintro e w1 ⟨rfl, hb1⟩
      have HW1 := Lib.hid (HW.out.trans (hb1.mono (Nat.le_succ _)))
      clear hb1
      go_wp2_with fail
      go_ret
      exact ⟨rfl, HW1.out⟩
end Go.Proofs.YtmhofofidmbgfaaDoor
