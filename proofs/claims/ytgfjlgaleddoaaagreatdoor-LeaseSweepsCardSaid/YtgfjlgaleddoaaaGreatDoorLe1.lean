/- Names and paths: whether a text is one, as the program asks it. -/
import Derived.Test.YtgfjlgaleddoaaaGreatDoorLe0
import Derived.Test.YtgfjlgaleddoaaaGreatDoorStp
import Derived.Test.YtgfjlgaleddoaaaGreatDoorStB
import Derived.Test.YtgfjlgaleddoaaaGreatDoorShf
import Derived.Deep.RegionHeld
namespace Go.Proofs.YtgfjlgaleddoaaaGreatDoor
set_option linter.unusedVariables false
set_option linter.unusedSimpArgs false
open Go.RowKit
theorem exec_strIdx {o : Oper} {a : Act} {w : World} {x y : Operand} {kk : IntKind} {t : ByteArray} {i : Nat} (ho : o.op = .index 9 x y) (hx : a.eval x = .string t) (hy : a.eval y = .int kk (i : Int)) (hi : i < t.size) :
    (execOp a.eval o).run Tryz.prog w = .ok (.value (.int .u8 (byteF t i : Nat))) w := by
  have hr := run_index_string (P := Tryz.prog) w 9 t kk (i : Int) Tryz.underlying9
  rw [dif_pos (show (0 : Int) ≤ (i : Int) ∧ (i : Int) < (t.size : Int) from ⟨by omega, by omega⟩)] at hr
  unfold execOp
  simp only [ho, hx, hy, Sem.run_bind, hr, Result.andThen_ok]
  unfold byteF
  rw [List.getD_eq_getElem?_getD, List.getElem?_eq_getElem (show i < t.data.toList.length from hi)]
  rfl
def chB (c : Nat) : Bool := decide (97 ≤ c ∧ c ≤ 122 ∨ 48 ≤ c ∧ c ≤ 57 ∨ c = 95 ∨ c = 45)
def nameB (s : ByteArray) : Bool := s.data.toList.all (fun b => chB b.toNat) && decide (1 ≤ s.size ∧ s.size ≤ 16)
theorem all_byteF {s : ByteArray} {p : Nat → Bool} : s.data.toList.all (fun b => p b.toNat) = true ↔ ∀ i, i < s.size → p (byteF s i) = true := by
  rw [List.all_eq_true]
  constructor
  · intro h i hi
    have hl : i < s.data.toList.length := hi
    have := h _ (List.getElem_mem hl)
    unfold byteF
    rw [List.getD_eq_getElem?_getD, List.getElem?_eq_getElem hl]
    exact this
  · intro h b hb
    obtain ⟨i, hi, rfl⟩ := List.getElem_of_mem hb
    have := h i hi
    unfold byteF at this
    rw [List.getD_eq_getElem?_getD, List.getElem?_eq_getElem hi] at this
    exact this
set_option maxRecDepth 100000 in
set_option maxHeartbeats 8000000 in
theorem isname_any (s : ByteArray) (w : World) (hs : s.size ≤ 64) :
    Calls Tryz.prog 108 #[.string s] w fun e w' => e = .returned (.bool (nameB s)) ∧ w' = w := by
  obtain ⟨q, hq⟩ : ∃ q, s.size = q := ⟨_, rfl⟩
  have hN : ∀ i, i < q → chB (byteF s i) = false → nameB s = false := fun i hi hc => by
    unfold nameB
    cases h : s.data.toList.all (fun b => chB b.toNat) with
    | false => rfl
    | true => rw [all_byteF.1 h i (by omega)] at hc; cases hc
  have hY : (∀ i, i < q → chB (byteF s i) = true) → nameB s = decide (1 ≤ q ∧ q ≤ 16) := fun h => by
    unfold nameB
    rw [all_byteF.2 (fun i hi => h i (by omega)), hq]; rfl
  have HQ := Lib.hid hq
  have hq0 : (q : Int) ≤ 64 := by omega
  have hq1 : (s.size : Int) = (q : Int) := by omega
  go_enter Tryz.func108, Tryz.ntmps108
  go_wp2_with fail
  go_loopw [7] (fun v wr => ∃ i : Nat, i ≤ q ∧ v = .int .i64 (i : Int) ∧ (∀ j, j < i → chB (byteF s j) = true) ∧ wr = w) (fun v _ => q - (intOf v).toNat)
  case atStart => exact ⟨0, Nat.zero_le _, rfl, fun j hj => absurd hj (Nat.not_lt_zero _), rfl⟩
  case round =>
    obtain ⟨i, hi, rfl, hJ, rfl⟩ := hrel
    have HJ := Lib.hid hJ
    by_cases hli : i < q
    · have i1 : (i : Int) < (q : Int) := by omega
      obtain ⟨j2, hj2⟩ : ∃ z, i + 1 = z := ⟨_, rfl⟩
      have k3 : (i : Int) + 1 = (j2 : Int) := by omega
      have k4 : IntKind.i64.wrap (j2 : Int) = (j2 : Int) := IntWalk.i64_in _ (by omega)
      have HI := Lib.hid (And.intro hli hj2)
      obtain ⟨c, hc⟩ : ∃ c, byteF s i = c := ⟨_, rfl⟩
      have hc2 : c < 256 := by rw [← hc]; exact byteF_lt _ _
      have HE := Lib.hid hc
      have HL : i < s.size := by omega
      have HK := Lib.hid HL
      clear hi hJ hli hj2 HL
      rcases (show c < 45 ∨ c = 45 ∨ 45 < c ∧ c < 48 ∨ 48 ≤ c ∧ c ≤ 57 ∨ 57 < c ∧ c < 95 ∨ c = 95 ∨ 95 < c ∧ c < 97 ∨ 97 ≤ c ∧ c ≤ 122 ∨ 122 < c by omega) with g | g | g | g | g | g | g | g | g
      · have HC := Lib.hid g
        have : ¬ (97 : Int) ≤ (c : Int) := by omega
        have : (c : Int) ≤ 122 := by omega
        have : ¬ (48 : Int) ≤ (c : Int) := by omega
        have : (c : Int) ≤ 57 := by omega
        have : ¬ (c : Int) = 95 := by omega
        have : ¬ (c : Int) = 45 := by omega
        have : ((c : Int) == 95) = false := beq_eq_false_iff_ne.2 (by omega)
        have : ((c : Int) == 45) = false := beq_eq_false_iff_ne.2 (by omega)
        clear g
        have HB : Hid (chB (byteF s i) = false) := Lib.hid (by rw [HE.out]; unfold chB; first | rfl | exact decide_eq_true (by have := HC.out; omega) | exact decide_eq_false (by have := HC.out; omega))
        go_wp2_with (first | (refine wpList_valueG (by rfl) (exec_strIdx (x := .tmp 10) (y := .tmp 11) rfl rfl rfl HK.out) ?_; rw [HE.out]) | fail)
        go_ret
        exact ⟨by rw [hN i HI.out.1 HB.out]; rfl, rfl⟩
      · have HC := Lib.hid g
        subst g
        have HB : Hid (chB (byteF s i) = true) := Lib.hid (by rw [HE.out]; unfold chB; first | rfl | exact decide_eq_true (by have := HC.out; omega) | exact decide_eq_false (by have := HC.out; omega))
        go_wp2_with (first | (refine wpList_valueG (by rfl) (exec_strIdx (x := .tmp 10) (y := .tmp 11) rfl rfl rfl HK.out) ?_; rw [HE.out]) | fail)
        go_roundw
        case rel => exact ⟨j2, by have := HI.out; omega, by first | rfl | go_num, fun j hj => by
          have h9 := HI.out
          by_cases e : j < i
          · exact HJ.out j e
          · obtain rfl : j = i := by omega
            exact HB.out, by first | trivial | rfl⟩
        case measure => have := HI.out; simp [intOf] <;> omega
      · have HC := Lib.hid g
        have : ¬ (97 : Int) ≤ (c : Int) := by omega
        have : (c : Int) ≤ 122 := by omega
        have : ¬ (48 : Int) ≤ (c : Int) := by omega
        have : (c : Int) ≤ 57 := by omega
        have : ¬ (c : Int) = 95 := by omega
        have : ¬ (c : Int) = 45 := by omega
        have : ((c : Int) == 95) = false := beq_eq_false_iff_ne.2 (by omega)
        have : ((c : Int) == 45) = false := beq_eq_false_iff_ne.2 (by omega)
        clear g
        have HB : Hid (chB (byteF s i) = false) := Lib.hid (by rw [HE.out]; unfold chB; first | rfl | exact decide_eq_true (by have := HC.out; omega) | exact decide_eq_false (by have := HC.out; omega))
        go_wp2_with (first | (refine wpList_valueG (by rfl) (exec_strIdx (x := .tmp 10) (y := .tmp 11) rfl rfl rfl HK.out) ?_; rw [HE.out]) | fail)
        go_ret
        exact ⟨by rw [hN i HI.out.1 HB.out]; rfl, rfl⟩
      · have HC := Lib.hid g
        have : ¬ (97 : Int) ≤ (c : Int) := by omega
        have : (c : Int) ≤ 122 := by omega
        have : (48 : Int) ≤ (c : Int) := by omega
        have : (c : Int) ≤ 57 := by omega
        have : ¬ (c : Int) = 95 := by omega
        have : ¬ (c : Int) = 45 := by omega
        have : ((c : Int) == 95) = false := beq_eq_false_iff_ne.2 (by omega)
        have : ((c : Int) == 45) = false := beq_eq_false_iff_ne.2 (by omega)
        clear g
        have HB : Hid (chB (byteF s i) = true) := Lib.hid (by rw [HE.out]; unfold chB; first | rfl | exact decide_eq_true (by have := HC.out; omega) | exact decide_eq_false (by have := HC.out; omega))
        go_wp2_with (first | (refine wpList_valueG (by rfl) (exec_strIdx (x := .tmp 10) (y := .tmp 11) rfl rfl rfl HK.out) ?_; rw [HE.out]) | fail)
        go_roundw
        case rel => exact ⟨j2, by have := HI.out; omega, by first | rfl | go_num, fun j hj => by
          have h9 := HI.out
          by_cases e : j < i
          · exact HJ.out j e
          · obtain rfl : j = i := by omega
            exact HB.out, by first | trivial | rfl⟩
        case measure => have := HI.out; simp [intOf] <;> omega
      · have HC := Lib.hid g
        have : ¬ (97 : Int) ≤ (c : Int) := by omega
        have : (c : Int) ≤ 122 := by omega
        have : (48 : Int) ≤ (c : Int) := by omega
        have : ¬ (c : Int) ≤ 57 := by omega
        have : ¬ (c : Int) = 95 := by omega
        have : ¬ (c : Int) = 45 := by omega
        have : ((c : Int) == 95) = false := beq_eq_false_iff_ne.2 (by omega)
        have : ((c : Int) == 45) = false := beq_eq_false_iff_ne.2 (by omega)
        clear g
        have HB : Hid (chB (byteF s i) = false) := Lib.hid (by rw [HE.out]; unfold chB; first | rfl | exact decide_eq_true (by have := HC.out; omega) | exact decide_eq_false (by have := HC.out; omega))
        go_wp2_with (first | (refine wpList_valueG (by rfl) (exec_strIdx (x := .tmp 10) (y := .tmp 11) rfl rfl rfl HK.out) ?_; rw [HE.out]) | fail)
        go_ret
        exact ⟨by rw [hN i HI.out.1 HB.out]; rfl, rfl⟩
      · have HC := Lib.hid g
        subst g
        have HB : Hid (chB (byteF s i) = true) := Lib.hid (by rw [HE.out]; unfold chB; first | rfl | exact decide_eq_true (by have := HC.out; omega) | exact decide_eq_false (by have := HC.out; omega))
        go_wp2_with (first | (refine wpList_valueG (by rfl) (exec_strIdx (x := .tmp 10) (y := .tmp 11) rfl rfl rfl HK.out) ?_; rw [HE.out]) | fail)
        go_roundw
        case rel => exact ⟨j2, by have := HI.out; omega, by first | rfl | go_num, fun j hj => by
          have h9 := HI.out
          by_cases e : j < i
          · exact HJ.out j e
          · obtain rfl : j = i := by omega
            exact HB.out, by first | trivial | rfl⟩
        case measure => have := HI.out; simp [intOf] <;> omega
      · have HC := Lib.hid g
        have : ¬ (97 : Int) ≤ (c : Int) := by omega
        have : (c : Int) ≤ 122 := by omega
        have : (48 : Int) ≤ (c : Int) := by omega
        have : ¬ (c : Int) ≤ 57 := by omega
        have : ¬ (c : Int) = 95 := by omega
        have : ¬ (c : Int) = 45 := by omega
        have : ((c : Int) == 95) = false := beq_eq_false_iff_ne.2 (by omega)
        have : ((c : Int) == 45) = false := beq_eq_false_iff_ne.2 (by omega)
        clear g
        have HB : Hid (chB (byteF s i) = false) := Lib.hid (by rw [HE.out]; unfold chB; first | rfl | exact decide_eq_true (by have := HC.out; omega) | exact decide_eq_false (by have := HC.out; omega))
        go_wp2_with (first | (refine wpList_valueG (by rfl) (exec_strIdx (x := .tmp 10) (y := .tmp 11) rfl rfl rfl HK.out) ?_; rw [HE.out]) | fail)
        go_ret
        exact ⟨by rw [hN i HI.out.1 HB.out]; rfl, rfl⟩
      · have HC := Lib.hid g
        have : (97 : Int) ≤ (c : Int) := by omega
        have : (c : Int) ≤ 122 := by omega
        have : (48 : Int) ≤ (c : Int) := by omega
        have : ¬ (c : Int) ≤ 57 := by omega
        have : ¬ (c : Int) = 95 := by omega
        have : ¬ (c : Int) = 45 := by omega
        have : ((c : Int) == 95) = false := beq_eq_false_iff_ne.2 (by omega)
        have : ((c : Int) == 45) = false := beq_eq_false_iff_ne.2 (by omega)
        clear g
        have HB : Hid (chB (byteF s i) = true) := Lib.hid (by rw [HE.out]; unfold chB; first | rfl | exact decide_eq_true (by have := HC.out; omega) | exact decide_eq_false (by have := HC.out; omega))
        go_wp2_with (first | (refine wpList_valueG (by rfl) (exec_strIdx (x := .tmp 10) (y := .tmp 11) rfl rfl rfl HK.out) ?_; rw [HE.out]) | fail)
        go_roundw
        case rel => exact ⟨j2, by have := HI.out; omega, by first | rfl | go_num, fun j hj => by
          have h9 := HI.out
          by_cases e : j < i
          · exact HJ.out j e
          · obtain rfl : j = i := by omega
            exact HB.out, by first | trivial | rfl⟩
        case measure => have := HI.out; simp [intOf] <;> omega
      · have HC := Lib.hid g
        have : (97 : Int) ≤ (c : Int) := by omega
        have : ¬ (c : Int) ≤ 122 := by omega
        have : (48 : Int) ≤ (c : Int) := by omega
        have : ¬ (c : Int) ≤ 57 := by omega
        have : ¬ (c : Int) = 95 := by omega
        have : ¬ (c : Int) = 45 := by omega
        have : ((c : Int) == 95) = false := beq_eq_false_iff_ne.2 (by omega)
        have : ((c : Int) == 45) = false := beq_eq_false_iff_ne.2 (by omega)
        clear g
        have HB : Hid (chB (byteF s i) = false) := Lib.hid (by rw [HE.out]; unfold chB; first | rfl | exact decide_eq_true (by have := HC.out; omega) | exact decide_eq_false (by have := HC.out; omega))
        go_wp2_with (first | (refine wpList_valueG (by rfl) (exec_strIdx (x := .tmp 10) (y := .tmp 11) rfl rfl rfl HK.out) ?_; rw [HE.out]) | fail)
        go_ret
        exact ⟨by rw [hN i HI.out.1 HB.out]; rfl, rfl⟩
    · obtain rfl : i = q := by omega
      have i1 : ¬ (i : Int) < (i : Int) := by omega
      have HD := Lib.hid (hY hJ)
      clear hi hJ hli hY hN
      rcases (show i = 0 ∨ (1 ≤ i ∧ i ≤ 16) ∨ 16 < i by omega) with g | g | g
      · have g1 : ¬ (1 : Int) ≤ (i : Int) := by omega
        have HG := Lib.hid g
        clear g
        go_wp2_with fail
        go_ret
        exact ⟨by rw [HD.out, HG.out]; rfl, rfl⟩
      · have g1 : (1 : Int) ≤ (i : Int) := by omega
        have g2 : (i : Int) ≤ 16 := by omega
        have HG := Lib.hid g
        clear g
        go_wp2_with fail
        go_ret
        exact ⟨by rw [HD.out, decide_eq_true HG.out]; rfl, rfl⟩
      · have g1 : (1 : Int) ≤ (i : Int) := by omega
        have g2 : ¬ (i : Int) ≤ 16 := by omega
        have HG := Lib.hid g
        clear g
        go_wp2_with fail
        go_ret
        exact ⟨by rw [HD.out, decide_eq_false (by have := HG.out; omega)]; rfl, rfl⟩
def sepS : ByteArray := ⟨#[47]⟩
def cutN (s : ByteArray) : Nat := Lib.countB s sepS
def cutL (s : ByteArray) : List ByteArray := Lib.splitB sepS 0 (cutN s) s
theorem cutL_len (s : ByteArray) : (cutL s).length = cutN s + 1 := Lib.splitB_all sepS (by decide) 0 _ s rfl
theorem splitB_size (sep : ByteArray) : ∀ (k : Nat) (s p : ByteArray), p ∈ Lib.splitB sep 0 k s → p.size ≤ s.size := by
  intro k
  induction k with
  | zero => intro s p hp; rw [Lib.splitB_zero] at hp; simp at hp; rw [hp]; exact Nat.le_refl _
  | succ k ih =>
    intro s p hp
    unfold Lib.splitB at hp
    split at hp
    · simp at hp; rw [hp]; exact Nat.le_refl _
    · rcases List.mem_cons.1 hp with e | e
      · rw [e, ByteArray.size_extract]; omega
      · refine Nat.le_trans (ih _ _ e) ?_
        rw [ByteArray.size_extract]; omega
def pieceS (s : ByteArray) (i : Nat) : ByteArray := (cutL s).getD i ⟨#[]⟩
theorem piece_at (s : ByteArray) {i : Nat} (h : i < cutN s + 1) : ((cutL s).map Value.string)[i]? = some (.string (pieceS s i)) := by
  unfold pieceS
  rw [List.getElem?_map, List.getD_eq_getElem?_getD, List.getElem?_eq_getElem (by rw [cutL_len]; exact h)]; rfl
theorem piece_mem (s : ByteArray) {i : Nat} (h : i < cutN s + 1) : pieceS s i ∈ cutL s := by
  unfold pieceS
  rw [List.getD_eq_getElem?_getD, List.getElem?_eq_getElem (by rw [cutL_len]; exact h)]; exact List.getElem_mem _
theorem piece_size (s : ByteArray) {i : Nat} (h : i < cutN s + 1) : (pieceS s i).size ≤ s.size := splitB_size _ _ _ _ (piece_mem s h)
theorem all_piece {s : ByteArray} {p : ByteArray → Bool} : (cutL s).all p = true ↔ ∀ i, i < cutN s + 1 → p (pieceS s i) = true := by
  rw [List.all_eq_true]
  constructor
  · exact fun h i hi => h _ (piece_mem s hi)
  · intro h b hb
    obtain ⟨i, hi, rfl⟩ := List.getElem_of_mem hb
    rw [cutL_len] at hi
    have := h i hi
    unfold pieceS at this
    rw [List.getD_eq_getElem?_getD, List.getElem?_eq_getElem (by rw [cutL_len]; exact hi)] at this
    exact this
def cutB (s : ByteArray) : Array Value := ((cutL s).map Value.string).toArray
set_option maxRecDepth 100000 in
set_option maxHeartbeats 4000000 in
theorem ssplit_any (s : ByteArray) (w : World) (hs : s.size ≤ 64) :
    Calls Tryz.prog 115 #[.string s, .string ⟨#[47]⟩] w fun e w' => e = .returned (.slice (some ⟨w.heap.size, 0, none⟩) (cutN s + 1) (cutN s + 1)) ∧ w' = w.alloc (.cells (cutB s) 9) := by
  have c := Any.strings_genSplit_core Tryz.lays221 (by kernel_rfl) s sepS 0 (-1) (cutN s + 1) w (by omega) (by decide) (Nat.zero_le _)
    (fun x c hx => (Tryz.strings_Index_one x 47 _).mono fun e w' h => ⟨by rw [h.1]; show _ = Ending.returned (.int .i64 (Lib.index x.data.toList [47])); rw [Lib.index_one], h.2⟩)
    ((Tryz.strings_Count_one s 47 w).mono fun e w' h => ⟨by rw [h.1]; show _ = Ending.returned (.int .i64 ((Lib.count s.data.toList [47] : Nat) : Int)); rw [Lib.count_one]; rfl, h.2⟩)
    (by decide) (by decide) (by rw [if_pos (by decide)]; have := Lib.countB_le sepS (by decide) s.size s (Nat.le_refl _); show ((Lib.countB s sepS + 1 : Nat) : Int) = _; omega)
  rw [Nat.add_sub_cancel, show Lib.splitB sepS 0 (cutN s) s = cutL s from rfl, cutL_len, show Lib.cellsOf (cutL s) (cutN s + 1) = cutB s by rw [← cutL_len]; exact Lib.cellsOf_full _] at c
  have HC := Lib.hid c
  clear c
  go_enter Tryz.func115, Tryz.ntmps115
  go_wp2_with (first | (refine HC.out.mono ?_; rintro e w1 ⟨rfl, hw⟩; rw [hw]) | fail)
  go_ret
  exact ⟨rfl, rfl⟩
def okN (s : ByteArray) : Bool := decide (s.size ≤ 64) && decide (cutN s + 1 ≤ 6)
def CutR (w : World) (s : ByteArray) (e : Ending) (w' : World) : Prop :=
  (s.size ≤ 64 ∧ e = .returned (.tuple #[.slice (some ⟨w.heap.size, 0, none⟩) (cutN s + 1) (cutN s + 1), .bool (decide (((cutN s + 1 : Nat) : Int) ≤ 6))]) ∧ w' = w.alloc (.cells (cutB s) 9)) ∨ (64 < s.size ∧ e = .returned (.tuple #[.slice none 0 0, .bool false]) ∧ w' = w)
set_option maxRecDepth 100000 in
set_option maxHeartbeats 4000000 in
theorem cut_any (s : ByteArray) (w : World) (hm : s.size ≤ maxLen) : Calls Tryz.prog 107 #[.string s] w (CutR w s) := by
  unfold maxLen at hm
  have hq0 : (s.size : Int) ≤ 9223372036854775807 := by omega
  by_cases h : s.size ≤ 64
  · have h1 : ¬ (64 : Int) < (s.size : Int) := by omega
    have HC := Lib.hid (ssplit_any s w h)
    obtain ⟨k, hk⟩ : ∃ k, cutN s + 1 = k := ⟨_, rfl⟩
    have hk2 : k ≤ 65 := by have := Lib.countB_le sepS (by decide) s.size s (Nat.le_refl _); have : cutN s ≤ s.size := this; omega
    have HH := Lib.hid h
    have HKE := Lib.hid hk
    rw [hk] at HC
    have hk3 : (k : Int) ≤ 65 := by omega
    clear h hk2
    go_enter Tryz.func107, Tryz.ntmps107
    go_wp2_with (first | (refine HC.out.mono ?_; rintro e w1 ⟨rfl, hw⟩; rw [hw]) | fail)
    refine bodyPost_ret (v := .tuple #[.slice (some ⟨w.heap.size, 0, none⟩) k k, .bool (decide ((k : Int) ≤ 6))]) (results_tmp2 (fn := Tryz.f107) (t := 2) (u := 3) rfl _ _ _) rfl (Or.inl ⟨HH.out, by rw [HKE.out], rfl⟩)
  · have h1 : (64 : Int) < (s.size : Int) := by omega
    have HH := Lib.hid h
    clear h
    go_enter Tryz.func107, Tryz.ntmps107
    go_wp2_with fail
    refine bodyPost_ret (v := .tuple #[.slice none 0 0, .bool false]) (results_tmp2 (fn := Tryz.f107) (t := 2) (u := 3) rfl _ _ _) rfl (Or.inr ⟨Nat.lt_of_not_le HH.out, rfl, rfl⟩)
end Go.Proofs.YtgfjlgaleddoaaaGreatDoor
