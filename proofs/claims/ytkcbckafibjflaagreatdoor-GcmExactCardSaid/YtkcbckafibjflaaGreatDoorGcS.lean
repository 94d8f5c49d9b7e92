/- GCM: the first counter block under noughts. An error's number as the statements ask it: 0 of nil, its own of an api.Errno; new memory alone is made. GCM: a first look, in plain numbers. GCM: a first look. GCM: what the program refuses. -/
import Derived.Test.YtkcbckafibjflaaGreatDoorAe5
import Derived.Test.YtkcbckafibjflaaGreatDoorAs
import Derived.Test.YtkcbckafibjflaaGreatDoorGcX
namespace Go.Proofs.YtkcbckafibjflaaGreatDoor
set_option linter.unusedVariables false
set_option linter.unusedSimpArgs false
open Go.RowKit

def subT (x : Nat) : Nat := subL.getD x 0
def wordT (x : Nat) : Nat := subT (x / 16777216) * 16777216 + subT (x / 65536 % 256) * 65536 + subT (x / 256 % 256) * 256 + subT (x % 256)
theorem wordT_eq {x : Nat} (h : x < 4294967296) : wordN x = wordT x := by
  unfold wordN wordT subT
  rw [sub_lit (show x / 16777216 < 256 by omega), sub_lit (show x / 65536 % 256 < 256 by omega), sub_lit (show x / 256 % 256 < 256 by omega), sub_lit (show x % 256 < 256 by omega)]
def knownW : List Nat := [0, 0, 0, 0, 0, 0, 0, 0, 1650680675, 1650680675, 1650680675, 1650680675, 2868640763, 2868640763, 2868640763, 2868640763, 1869376719, 219090860, 1869376719, 219090860, 2106428778, 3614865041, 2106428778, 3614865041, 1398074817, 1583080045, 825724578, 1010336014, 2525659585, 1107097424, 1014069818, 3943107755, 2661977896, 3237047621, 4056343527, 3456000745, 724642783, 1791876239, 1455204021, 3183192606, 1678179666, 2767687703, 1429304304, 2563707161, 1841015051, 125203844, 1372246833, 3966859567, 3887130780, 1128757387, 376834939, 2394495586, 1961692065, 1939570213, 575778068, 3458257979, 284690967, 1405055644, 1170831847, 3413140357]
def knownS : List (List Nat) := [[0, 0, 0, 0, 0, 0, 0, 0, 0, 0, 0, 0, 0, 0, 0, 1], [124, 124, 66, 93, 99, 99, 99, 99, 99, 99, 99, 99, 99, 99, 99, 99], [84, 115, 115, 190, 46, 47, 90, 237, 78, 250, 45, 79, 191, 85, 115, 115], [130, 13, 239, 83, 158, 180, 11, 77, 49, 232, 210, 83, 10, 171, 140, 193], [8, 194, 11, 50, 36, 104, 123, 143, 96, 246, 82, 253, 103, 77, 197, 56], [213, 48, 241, 113, 248, 22, 48, 105, 160, 142, 125, 47, 220, 142, 104, 169], [176, 16, 34, 193, 17, 68, 206, 175, 153, 228, 62, 200, 54, 175, 52, 181], [9, 67, 102, 235, 133, 252, 164, 76, 154, 186, 91, 11, 199, 227, 237, 46], [95, 170, 31, 192, 78, 131, 132, 143, 179, 32, 87, 68, 22, 252, 81, 189], [160, 170, 48, 214, 157, 69, 40, 247, 244, 130, 117, 148, 152, 69, 210, 18], [89, 79, 18, 19, 110, 189, 173, 164, 238, 54, 18, 144, 237, 180, 245, 15], [209, 178, 11, 18, 182, 175, 191, 39, 13, 234, 36, 159, 36, 243, 57, 1], [90, 90, 71, 105, 150, 227, 213, 69, 83, 10, 200, 188, 104, 34, 125, 170], [100, 254, 128, 194, 231, 38, 124, 255, 131, 20, 58, 215, 251, 98, 134, 131], [83, 15, 138, 251, 199, 69, 54, 185, 169, 99, 180, 241, 196, 203, 115, 139]]
def lastT (W : List Nat) (n : Nat) : Nat := if n % 8 = 0 then wordT (rot8 (W.getD (n - 1) 0)) ^^^ 2 ^ (23 + n / 8) else if n % 8 = 4 then wordT (W.getD (n - 1) 0) else W.getD (n - 1) 0
def kF : Nat → Nat := fun _ => 0
def gF : Nat → Nat := fun i => if i < 12 then 0 else numB 1 4 (i - 12)
def okW (n : Nat) : Bool := knownW.getD n 0 == (if n < 8 then kwN kF n else knownW.getD (n - 8) 0 ^^^ lastT knownW n) && decide (knownW.getD n 0 < 4294967296)
theorem okW_all : (List.range 60).all okW = true := by kernel_rfl
theorem exK_known : ∀ n, n ≤ 60 → ∀ i, exK kF n i = if i < n then knownW.getD i 0 else 0
  | 0, _, i => (if_neg (Nat.not_lt_zero i)).symm
  | n + 1, hn, i => by
    have ih := exK_known n (by omega)
    have hok := List.all_eq_true.1 okW_all n (List.mem_range.2 (by omega))
    unfold okW at hok
    rw [Bool.and_eq_true] at hok
    have h1 := eq_of_beq hok.1
    show upd (exK kF n) n (if n < 8 then kwN kF n else exK kF n (n - 8) ^^^ lastN (exK kF n) n) i = _
    unfold upd
    by_cases e : i = n
    · subst e
      rw [if_pos rfl, show (if i < i + 1 then knownW.getD i 0 else 0) = knownW.getD i 0 from if_pos (Nat.lt_succ_self i), h1]
      by_cases h8 : i < 8
      · rw [if_pos h8, if_pos h8]
      · rw [if_neg h8, if_neg h8, ih, if_pos (by omega)]
        have hl : exK kF i (i - 1) = knownW.getD (i - 1) 0 := by rw [ih, if_pos (by omega)]
        have hb : knownW.getD (i - 1) 0 < 4294967296 := by
          have := List.all_eq_true.1 okW_all (i - 1) (List.mem_range.2 (by omega))
          unfold okW at this; rw [Bool.and_eq_true] at this; exact of_decide_eq_true this.2
        have : lastN (exK kF i) i = lastT knownW i := by
          unfold lastN lastT
          rw [hl, wordT_eq (rot8_lt hb), wordT_eq hb]
        rw [this]
    · rw [if_neg e, ih]
      by_cases h5 : i < n
      · rw [if_pos h5, if_pos (by omega)]
      · rw [if_neg h5, if_neg (by omega)]
def stF (r : Nat) : Nat → Nat := fun i => (knownS.getD r []).getD i 0
def addT (r : Nat) (f : Nat → Nat) : Nat → Nat := fun i => f i ^^^ numB (knownW.getD (4 * r + i / 4) 0) 4 (i % 4)
def okS (r i : Nat) : Bool := (stF r i == if r = 0 then addT 0 gF i else addT r (if r < 14 then mxA (mvA subT (stF (r - 1))) else mvA subT (stF (r - 1))) i) && decide (stF r i < 256)
theorem okS_all : (List.range 15).all (fun r => (List.range 16).all (okS r)) = true := by kernel_rfl
theorem okS_at {r i : Nat} (hr : r < 15) (hi : i < 16) : okS r i = true := List.all_eq_true.1 (List.all_eq_true.1 okS_all r (List.mem_range.2 hr)) i (List.mem_range.2 hi)
theorem addT_eq {r : Nat} (hr : r < 15) (f g : Nat → Nat) (i : Nat) (hi : i < 16) (h : f i = g i) : addK (exK kF 60) r f i = addT r g i := by
  unfold addK addT
  rw [h, exK_known 60 (Nat.le_refl _), if_pos (by omega)]
theorem mxA_congr {f g : Nat → Nat} (h : ∀ i, i < 16 → f i = g i) (i : Nat) (hi : i < 16) : mxA f i = mxA g i := by
  unfold mxA
  rw [h _ (show 4 * (i / 4) + i % 4 < 16 by omega), h _ (show 4 * (i / 4) + (i % 4 + 1) % 4 < 16 by omega), h _ (show 4 * (i / 4) + (i % 4 + 2) % 4 < 16 by omega), h _ (show 4 * (i / 4) + (i % 4 + 3) % 4 < 16 by omega)]
theorem enc_known : ∀ r, r < 15 → ∀ i, i < 16 → encK subN (exK kF 60) gF r i = stF r i
  | 0, hr, i, hi => by
    have h := okS_at hr hi
    unfold okS at h; rw [Bool.and_eq_true, if_pos rfl] at h
    rw [eq_of_beq h.1]
    exact addT_eq hr gF gF i hi rfl
  | r + 1, hr, i, hi => by
    have ih := enc_known r (by omega)
    have h := okS_at hr hi
    unfold okS at h; rw [Bool.and_eq_true, if_neg (Nat.succ_ne_zero r), Nat.add_sub_cancel] at h
    rw [eq_of_beq h.1]
    have hmv : ∀ j, j < 16 → mvA subN (encK subN (exK kF 60) gF r) j = mvA subT (stF r) j := fun j hj => by
      unfold mvA subT
      have hb := okS_at (r := r) (i := 4 * ((j / 4 + j % 4) % 4) + j % 4) (by omega) (by omega)
      unfold okS at hb; rw [Bool.and_eq_true] at hb
      rw [ih _ (by omega), sub_lit (of_decide_eq_true hb.2)]
    refine addT_eq hr _ _ i hi ?_
    by_cases h14 : r + 1 < 14
    · rw [if_pos h14, if_pos h14]; exact mxA_congr hmv i hi
    · rw [if_neg h14, if_neg h14]; exact hmv i hi
theorem known_0 : encK subN (exK kF 60) gF 14 0 = 83 := by rw [enc_known 14 (by decide) 0 (by decide)]; rfl
theorem known_15 : encK subN (exK kF 60) gF 14 15 = 139 := by rw [enc_known 14 (by decide) 15 (by decide)]; rfl
end Go.Proofs.YtkcbckafibjflaaGreatDoor
namespace Go.Proofs.YtkcbckafibjflaaGreatDoor
set_option linter.unusedVariables false
set_option linter.unusedSimpArgs false
open Go.RowKit

theorem cell_new {w : World} {C : Array Value} {t : TypeId} {fr : Nat × Nat} {b k : Nat} (h : b = w.heap.size) : (w.alloc (.cells C t fr)).cell? ⟨b, k, none⟩ = C[k]? := by
  subst h; exact World.cell?_alloc_mark w C t fr k
theorem cell_old {w : World} {o : Obj} {b k : Nat} (h : b < w.heap.size) : (w.alloc o).cell? ⟨b, k, none⟩ = w.cell? ⟨b, k, none⟩ :=
  World.cell?_alloc_lt _ _ ⟨b, k, none⟩ h

set_option maxHeartbeats 400000 in
theorem num_nil (w : World) :
    Calls Tryz.prog 7 #[.nilIface] w fun e w' => e = .returned (.int .i64 0) ∧ Below w.heap.size w w' := by
  go_enter Tryz.func7, Tryz.ntmps7
  go_wp2
  go_ret
  exact ⟨rfl, (Below.refl _ _).alloc (Nat.le_refl _) _⟩

set_option maxHeartbeats 400000 in
theorem num_err (n : Int) (w : World) (h : Handle w) :
    Calls Tryz.prog 7 #[.iface 47 (.int .i64 n)] w fun e w' => e = .returned (.int .i64 n) ∧ Below w.heap.size w w' := by
  have hA := as_hit n ⟨w.heap.size, 0, none⟩ (.int .i64 0) (w.alloc (.cells #[.int .i64 0] 47)) (h.alloc _).1 (by simp) (by simp)
  go_enter Tryz.func7, Tryz.ntmps7
  go_wp2_with fail
  refine hA.mono ?_
  rintro e w' ⟨rfl, rfl⟩
  go_wp2
  go_ret
  refine ⟨rfl, ?_⟩
  exact (((((Below.refl _ _).alloc (Nat.le_refl _) _).alloc (by simp) _).alloc (by simp; omega) _).alloc (by simp; omega) _).alloc (by simp; omega) _

end Go.Proofs.YtkcbckafibjflaaGreatDoor
namespace Go.Proofs.YtkcbckafibjflaaGreatDoor
set_option linter.unusedVariables false
set_option linter.unusedSimpArgs false
set_option linter.unusedVariables false
set_option linter.unusedSimpArgs false
open Go.RowKit

theorem mulF_nul (h : Nat → Nat) : mulF (fun _ => 0) h = fun _ => 0 := by
  have := mulF_add (f := fun _ => 0) (f' := fun _ => 0) (g := h) (fun _ _ => Nat.zero_lt_succ _) (fun _ _ => Nat.zero_lt_succ _)
  rw [addF_self] at this
  exact this.trans (addF_self _)
theorem hashF_none (h a c : Nat → Nat) : hashF h a 0 c 0 = fun _ => 0 := by
  unfold hashF twoF
  have e : addF (thrF h c 0 (thrF h a 0 (fun _ => 0) ((0 + 15) / 16)) ((0 + 15) / 16)) (blkF (0 * 8) (0 * 8)) = fun _ => 0 := by
    funext i
    show 0 ^^^ blkF (0 * 8) (0 * 8) i = 0
    unfold blkF numB
    split <;> simp
  rw [e, mulF_nul]
theorem box_known (a p : Nat → Nat) (i : Nat) : boxF (exK kF 60) kF p 0 a 0 i = encK subN (exK kF 60) gF 14 i := by
  unfold boxF catF
  rw [if_neg (Nat.not_lt_zero _)]
  unfold tgF
  rw [hashF_none]
  show 0 ^^^ cW (exK kF 60) kF 1 (i - 0) = _
  rw [Nat.zero_xor]; rfl
end Go.Proofs.YtkcbckafibjflaaGreatDoor
namespace Go.Proofs.YtkcbckafibjflaaGreatDoor
set_option linter.unusedVariables false
set_option linter.unusedSimpArgs false
set_option linter.unusedVariables false
set_option linter.unusedSimpArgs false
open Go.RowKit

theorem zrow_bytes (w : World) (n : Nat) : Bytes (w.alloc (.cells (rowC n (fun _ => 0)).toArray 5)) (some ⟨w.heap.size, 0, none⟩) n kF := fun k hk => ⟨Nat.zero_lt_succ _, w.heap.size, 0, rfl, by
  rw [Nat.zero_add, Blk.cell (Blk.new w (rowC n (fun _ => 0)).toArray 5) k, List.getElem?_toArray]; exact rowC_get (fun _ => 0) hk⟩
set_option maxHeartbeats 4000000 in
set_option maxRecDepth 100000 in
theorem sure11 (w : World) (hg : Handle w) : Calls Tryz.prog 4 #[] w fun e w' => e = .returned (.bool true) ∧ Below w.heap.size w w' := by
  have HH := Lib.hid hg
  clear hg
  obtain ⟨w0, hw0⟩ : ∃ y, w.alloc (.cells (rowC 32 (fun _ => 0)).toArray 5) = y := ⟨_, rfl⟩
  have hb0 : Below w.heap.size w w0 := by rw [← hw0]; exact (Below.refl _ _).alloc (Nat.le_refl _) _
  have HB0 := Lib.hid hb0
  have HNW := Lib.hid (gnew_any kF (some ⟨w.heap.size, 0, none⟩) 32 w0 (hw0 ▸ zrow_bytes w 32))
  clear hb0
  go_enter Tryz.func4, Tryz.ntmps4
  go_wp2_with (first | (refine wpList_mk rfl (.const (.int .i64 32)) (.const (.int .i64 32)) rfl 32 rfl rfl (by decide) ?_; rw [hw0]))
  refine HNW.out.mono ?_
  rintro e w1 ⟨g, kb, bx, rfl, hK1, hb1, hx1, -, -⟩
  have HB1 := Lib.hid (HB0.out.trans (hb1.mono HB0.out.size))
  have HS1 := Lib.hid (show KG w1 g kb bx (exK kF 60) ∧ w.heap.size ≤ bx from ⟨hK1, by have := HB0.out.size; omega⟩)
  clear hK1 hb1 hx1 HNW hw0
  obtain ⟨w1a, hw1a⟩ : ∃ y, w1.alloc (.cells (rowC 12 (fun _ => 0)).toArray 5) = y := ⟨_, rfl⟩
  have hb1a : Below w1.heap.size w1 w1a := by rw [← hw1a]; exact (Below.refl _ _).alloc (Nat.le_refl _) _
  have HB1A := Lib.hid hb1a
  have HSE := Lib.hid (seal_any g kb bx (exK kF 60) kF kF kF 0 0 (some ⟨w1.heap.size, 0, none⟩) none none 12 0 0 w1a (HS1.out.1.below hb1a) (hw1a ▸ zrow_bytes w1 12)
    (fun x hx => by cases hx; have := HS1.out.1.lt; show w1.heap.size ≠ bx; omega) (fun k hk => absurd hk (Nat.not_lt_zero _)) (fun x hx => by cases hx) (fun k hk => absurd hk (Nat.not_lt_zero _)) (fun x hx => by cases hx) (Nat.le_refl _) (by unfold maxLen; omega) (Nat.le_refl _) (by unfold maxLen; omega) (by omega) (by omega))
  clear hb1a
  go_wp2_with (first | (refine wpList_mk rfl (.const (.int .i64 12)) (.const (.int .i64 12)) rfl 12 rfl rfl (by decide) ?_; rw [hw1a]))
  refine HSE.out.mono ?_
  rintro e w3 ⟨v, rfl, hG3, hK3, hO3⟩
  have hF : ∀ i, i < 0 + 16 → boxF (exK kF 60) kF kF 0 kF 0 i < 256 := boxF_lt (fun _ _ => Nat.zero_lt_succ _) (fun _ _ => Nat.zero_lt_succ _)
  obtain ⟨oc, cp, hv, hB3, hnc, hcm, hno⟩ := hG3.bytesM hF
  subst hv
  obtain ⟨_, bq, oq, hq, x0⟩ := hB3 0 (by decide)
  subst hq
  obtain ⟨_, bq', oq', hq', x15⟩ := hB3 15 (by decide)
  cases hq'
  rw [box_known, known_0] at x0
  rw [box_known, known_15] at x15
  have HB3 := Lib.hid (show Below w.heap.size w w3 from (HB1.out.trans (HB1A.out.mono HB1.out.size)).trans (hO3.below HS1.out.2 (by have := HB1.out.size; have := HB1A.out.size; omega)))
  have HX := Lib.hid (show w3.cell? ⟨bq, oq + 0, none⟩ = some (.int .u8 83) ∧ w3.cell? ⟨bq, oq + 15, none⟩ = some (.int .u8 139) from ⟨x0, x15⟩)
  clear hG3 hK3 hO3 hF hB3 hnc hcm hno x0 x15 hw1a HSE
  go_upto_region 3 with fail
  have hb0 : Below w3.heap.size w3 w3.drew := ⟨rfl, rfl, rfl, Nat.le_refl _, fun _ _ => rfl⟩
  refine wp_region_held_drew (S := (fun _ => True)) (by kernel_rfl) ?_ (fun hHeld => ?_)
  · (try dsimp only)
    all_goals trivial
  generalize w3.drew = W0 at *
  refine wpAnyH_take (i := 0) (oi := { dst := some 19, op := Go.Op.move (Go.Operand.tmp 1), type := 26, pos := "law.go:28", after := #[], guard := none }) (v := ?_) rfl (by kernel_rfl) (by kernel_rfl) (by kernel_rfl) (fun _ _ _ h => h) (Or.inl ⟨by rfl, ?_⟩) (by assumption) ?_
  rotate_left
  · intro wS hSw
    (try dsimp only at hSw)
    go_simp
    (try with_reducible rfl)
  (try simp only [Act.put, List.setIfInBounds_toArray, List.set_cons_zero, List.set_cons_succ])
  refine wpAnyH_ready (rs := [1, 2]) (by kernel_rfl) (by simp) ?_
  refine AllReadyH.cons (o := { dst := some 20, op := Go.Op.makeSlice 22 (Go.Operand.const (Go.Value.int Go.IntKind.i64 12)) (Go.Operand.const (Go.Value.int Go.IntKind.i64 12)), type := 22, pos := "law.go:28", after := #[], guard := none }) rfl (fun K hK => ?_) ?_
  · skip
    (refine step_make rfl (.const (.int .i64 12)) (.const (.int .i64 12)) rfl 12 rfl rfl (by decide) ?_; obtain ⟨W1, hW1⟩ : ∃ q, W0.alloc (.cells (rowC 12 (fun _ => 0)).toArray 5) = q := ⟨_, rfl⟩; rw [hW1]; have hb1 : Below w3.heap.size w3 W1 := (by rw [← hW1]; exact hb0.alloc hb0.size _); clear hb0 hW1; skip)
    refine hK.out _ _ ?_ (fun hHeld => ?_)
    · (try dsimp only)
      all_goals trivial
    clear hK K
    (try simp only [Act.put, List.setIfInBounds_toArray, List.set_cons_zero, List.set_cons_succ])
    refine wpAnyH_ready (rs := [2]) (by kernel_rfl) (by simp) ?_
    refine AllReadyH.cons (o := { dst := some 21, op := Go.Op.makeSlice 22 (Go.Operand.const (Go.Value.int Go.IntKind.i64 15)) (Go.Operand.const (Go.Value.int Go.IntKind.i64 15)), type := 22, pos := "law.go:28", after := #[], guard := none }) rfl (fun K hK => ?_) AllReadyH.nil
    (refine step_make rfl (.const (.int .i64 15)) (.const (.int .i64 15)) rfl 15 rfl rfl (by decide) ?_; obtain ⟨W2, hW2⟩ : ∃ q, W1.alloc (.cells (rowC 15 (fun _ => 0)).toArray 5) = q := ⟨_, rfl⟩; rw [hW2]; have hb2 : Below w3.heap.size w3 W2 := (by rw [← hW2]; exact hb1.alloc hb1.size _); clear hb1 hW2; skip)
    refine hK.out _ _ ?_ (fun hHeld => ?_)
    · (try dsimp only)
      all_goals trivial
    clear hK K
    (try simp only [Act.put, List.setIfInBounds_toArray, List.set_cons_zero, List.set_cons_succ])
    refine wpAnyH_ready (rs := [3]) (by kernel_rfl) (by simp) ?_
    refine AllReadyH.cons (o := { dst := some 22, op := Go.Op.call { callee := Go.Callee.value (Go.Operand.func 6), args := #[Go.Operand.tmp 19, Go.Operand.tmp 20, Go.Operand.tmp 21, Go.Operand.const (Go.Value.slice none 0 0)], argTypes := #[26, 22, 22, 22] }, type := 29, pos := "law.go:28", after := #[{ on := 0, ground := Go.Ground.data }, { on := 1, ground := Go.Ground.data }, { on := 2, ground := Go.Ground.data }], guard := none }) rfl (fun K hK => ?_) AllReadyH.nil
    go_simp
    (refine (open_short g 15 _ _ 12 15 W2 (by decide)).mono ?_; rintro e w4 ⟨rfl, rfl⟩; skip)
    (try go_wp2_with fail)
    refine hK.out _ _ ?_ (fun hHeld => ?_)
    · (try dsimp only)
      all_goals trivial
    clear hK K
    (try simp only [Act.put, List.setIfInBounds_toArray, List.set_cons_zero, List.set_cons_succ])
    refine wpAnyH_take (i := 4) (oi := { dst := some 18, op := Go.Op.move (Go.Operand.tmp 22), type := 29, pos := "law.go:28", after := #[{ on := 3, ground := Go.Ground.data }], guard := none }) (v := ?_) rfl (by kernel_rfl) (by kernel_rfl) (by kernel_rfl) (fun _ _ _ h => h) (Or.inl ⟨by rfl, ?_⟩) (by assumption) ?_
    rotate_left
    · intro wS hSw
      (try dsimp only at hSw)
      go_simp
      (try with_reducible rfl)
    (try simp only [Act.put, List.setIfInBounds_toArray, List.set_cons_zero, List.set_cons_succ])
    refine wpAnyH_take (i := 5) (oi := { dst := some 23, op := Go.Op.extract (Go.Operand.tmp 18) 0, type := 22, pos := "law.go:28", after := #[{ on := 4, ground := Go.Ground.data }], guard := none }) (v := ?_) rfl (by kernel_rfl) (by kernel_rfl) (by kernel_rfl) (fun _ _ _ h => h) (Or.inl ⟨by rfl, ?_⟩) (by assumption) ?_
    rotate_left
    · intro wS hSw
      (try dsimp only at hSw)
      go_simp
      (try with_reducible rfl)
    (try simp only [Act.put, List.setIfInBounds_toArray, List.set_cons_zero, List.set_cons_succ])
    refine wpAnyH_take (i := 6) (oi := { dst := some 24, op := Go.Op.extract (Go.Operand.tmp 18) 1, type := 28, pos := "law.go:28", after := #[{ on := 4, ground := Go.Ground.data }, { on := 7, ground := Go.Ground.gcOnly Go.Departure.lateStores }], guard := none }) (v := ?_) rfl (by kernel_rfl) (by kernel_rfl) (by kernel_rfl) (fun _ _ _ h => h) (Or.inl ⟨by rfl, ?_⟩) (by assumption) ?_
    rotate_left
    · intro wS hSw
      (try dsimp only at hSw)
      go_simp
      (try with_reducible rfl)
    (try simp only [Act.put, List.setIfInBounds_toArray, List.set_cons_zero, List.set_cons_succ])
    refine wpAnyH_take (i := 7) (oi := { dst := some 5, op := Go.Op.assign (Go.Operand.tmp 23), type := 22, pos := "law.go:28", after := #[{ on := 5, ground := Go.Ground.data }, { on := 3, ground := Go.Ground.chain }, { on := 0, ground := Go.Ground.phase }, { on := 1, ground := Go.Ground.phase }, { on := 2, ground := Go.Ground.phase }, { on := 3, ground := Go.Ground.phase }, { on := 4, ground := Go.Ground.phase }, { on := 5, ground := Go.Ground.phase }, { on := 6, ground := Go.Ground.textOnly Go.Departure.lateStores }], guard := none }) (v := ?_) rfl (by kernel_rfl) (by kernel_rfl) (by kernel_rfl) (fun _ _ _ h => h) (Or.inl ⟨by rfl, ?_⟩) (by assumption) ?_
    rotate_left
    · intro wS hSw
      (try dsimp only at hSw)
      go_simp
      (try with_reducible rfl)
    (try simp only [Act.put, List.setIfInBounds_toArray, List.set_cons_zero, List.set_cons_succ])
    refine wpAnyH_take (i := 8) (oi := { dst := some 6, op := Go.Op.assign (Go.Operand.tmp 24), type := 28, pos := "law.go:28", after := #[{ on := 6, ground := Go.Ground.data }, { on := 7, ground := Go.Ground.chain }, { on := 0, ground := Go.Ground.phase }, { on := 1, ground := Go.Ground.phase }, { on := 2, ground := Go.Ground.phase }, { on := 3, ground := Go.Ground.phase }, { on := 4, ground := Go.Ground.phase }, { on := 5, ground := Go.Ground.phase }, { on := 6, ground := Go.Ground.phase }, { on := 7, ground := Go.Ground.phase }], guard := none }) (v := ?_) rfl (by kernel_rfl) (by kernel_rfl) (by kernel_rfl) (fun _ _ _ h => h) (Or.inl ⟨by rfl, ?_⟩) (by assumption) ?_
    rotate_left
    · intro wS hSw
      (try dsimp only at hSw)
      go_simp
      (try with_reducible rfl)
    (try simp only [Act.put, List.setIfInBounds_toArray, List.set_cons_zero, List.set_cons_succ])
    refine wpAnyH_done (by kernel_rfl) ?_ _
    have HBX := Lib.hid (HB3.out.trans (hb2.mono HB3.out.size))
    have c0 : w4.cell? ⟨bq, oq, none⟩ = some (.int .u8 83) := cell_below hb2 HX.out.1
    have c15 : w4.cell? ⟨bq, oq + 15, none⟩ = some (.int .u8 139) := cell_below hb2 HX.out.2
    have HNUM := Lib.hid (num_err 11 w4 (HH.out.below HBX.out HH.out.2))
    clear hb2
    go_wp2_with (go_at_call 7; refine HNUM.out.mono ?_; refine Hid.out ?_)
    refine Lib.hid ?_
    rintro e w6 ⟨rfl, hb6⟩
    have HB6 := Lib.hid (HBX.out.trans (hb6.mono HBX.out.size))
    clear hb6 c0 c15
    go_wp2_with fail
    go_ret
    exact ⟨rfl, HB6.out⟩
  refine AllReadyH.cons (o := { dst := some 21, op := Go.Op.makeSlice 22 (Go.Operand.const (Go.Value.int Go.IntKind.i64 15)) (Go.Operand.const (Go.Value.int Go.IntKind.i64 15)), type := 22, pos := "law.go:28", after := #[], guard := none }) rfl (fun K hK => ?_) AllReadyH.nil
  (refine step_make rfl (.const (.int .i64 15)) (.const (.int .i64 15)) rfl 15 rfl rfl (by decide) ?_; obtain ⟨W1, hW1⟩ : ∃ q, W0.alloc (.cells (rowC 15 (fun _ => 0)).toArray 5) = q := ⟨_, rfl⟩; rw [hW1]; have hb1 : Below w3.heap.size w3 W1 := (by rw [← hW1]; exact hb0.alloc hb0.size _); clear hb0 hW1; skip)
  refine hK.out _ _ ?_ (fun hHeld => ?_)
  · (try dsimp only)
    all_goals trivial
  clear hK K
  (try simp only [Act.put, List.setIfInBounds_toArray, List.set_cons_zero, List.set_cons_succ])
  refine wpAnyH_ready (rs := [1]) (by kernel_rfl) (by simp) ?_
  refine AllReadyH.cons (o := { dst := some 20, op := Go.Op.makeSlice 22 (Go.Operand.const (Go.Value.int Go.IntKind.i64 12)) (Go.Operand.const (Go.Value.int Go.IntKind.i64 12)), type := 22, pos := "law.go:28", after := #[], guard := none }) rfl (fun K hK => ?_) AllReadyH.nil
  (refine step_make rfl (.const (.int .i64 12)) (.const (.int .i64 12)) rfl 12 rfl rfl (by decide) ?_; obtain ⟨W2, hW2⟩ : ∃ q, W1.alloc (.cells (rowC 12 (fun _ => 0)).toArray 5) = q := ⟨_, rfl⟩; rw [hW2]; have hb2 : Below w3.heap.size w3 W2 := (by rw [← hW2]; exact hb1.alloc hb1.size _); clear hb1 hW2; skip)
  refine hK.out _ _ ?_ (fun hHeld => ?_)
  · (try dsimp only)
    all_goals trivial
  clear hK K
  (try simp only [Act.put, List.setIfInBounds_toArray, List.set_cons_zero, List.set_cons_succ])
  refine wpAnyH_ready (rs := [3]) (by kernel_rfl) (by simp) ?_
  refine AllReadyH.cons (o := { dst := some 22, op := Go.Op.call { callee := Go.Callee.value (Go.Operand.func 6), args := #[Go.Operand.tmp 19, Go.Operand.tmp 20, Go.Operand.tmp 21, Go.Operand.const (Go.Value.slice none 0 0)], argTypes := #[26, 22, 22, 22] }, type := 29, pos := "law.go:28", after := #[{ on := 0, ground := Go.Ground.data }, { on := 1, ground := Go.Ground.data }, { on := 2, ground := Go.Ground.data }], guard := none }) rfl (fun K hK => ?_) AllReadyH.nil
  go_simp
  (refine (open_short g 15 _ _ 12 15 W2 (by decide)).mono ?_; rintro e w4 ⟨rfl, rfl⟩; skip)
  (try go_wp2_with fail)
  refine hK.out _ _ ?_ (fun hHeld => ?_)
  · (try dsimp only)
    all_goals trivial
  clear hK K
  (try simp only [Act.put, List.setIfInBounds_toArray, List.set_cons_zero, List.set_cons_succ])
  refine wpAnyH_take (i := 4) (oi := { dst := some 18, op := Go.Op.move (Go.Operand.tmp 22), type := 29, pos := "law.go:28", after := #[{ on := 3, ground := Go.Ground.data }], guard := none }) (v := ?_) rfl (by kernel_rfl) (by kernel_rfl) (by kernel_rfl) (fun _ _ _ h => h) (Or.inl ⟨by rfl, ?_⟩) (by assumption) ?_
  rotate_left
  · intro wS hSw
    (try dsimp only at hSw)
    go_simp
    (try with_reducible rfl)
  (try simp only [Act.put, List.setIfInBounds_toArray, List.set_cons_zero, List.set_cons_succ])
  refine wpAnyH_take (i := 5) (oi := { dst := some 23, op := Go.Op.extract (Go.Operand.tmp 18) 0, type := 22, pos := "law.go:28", after := #[{ on := 4, ground := Go.Ground.data }], guard := none }) (v := ?_) rfl (by kernel_rfl) (by kernel_rfl) (by kernel_rfl) (fun _ _ _ h => h) (Or.inl ⟨by rfl, ?_⟩) (by assumption) ?_
  rotate_left
  · intro wS hSw
    (try dsimp only at hSw)
    go_simp
    (try with_reducible rfl)
  (try simp only [Act.put, List.setIfInBounds_toArray, List.set_cons_zero, List.set_cons_succ])
  refine wpAnyH_take (i := 6) (oi := { dst := some 24, op := Go.Op.extract (Go.Operand.tmp 18) 1, type := 28, pos := "law.go:28", after := #[{ on := 4, ground := Go.Ground.data }, { on := 7, ground := Go.Ground.gcOnly Go.Departure.lateStores }], guard := none }) (v := ?_) rfl (by kernel_rfl) (by kernel_rfl) (by kernel_rfl) (fun _ _ _ h => h) (Or.inl ⟨by rfl, ?_⟩) (by assumption) ?_
  rotate_left
  · intro wS hSw
    (try dsimp only at hSw)
    go_simp
    (try with_reducible rfl)
  (try simp only [Act.put, List.setIfInBounds_toArray, List.set_cons_zero, List.set_cons_succ])
  refine wpAnyH_take (i := 7) (oi := { dst := some 5, op := Go.Op.assign (Go.Operand.tmp 23), type := 22, pos := "law.go:28", after := #[{ on := 5, ground := Go.Ground.data }, { on := 3, ground := Go.Ground.chain }, { on := 0, ground := Go.Ground.phase }, { on := 1, ground := Go.Ground.phase }, { on := 2, ground := Go.Ground.phase }, { on := 3, ground := Go.Ground.phase }, { on := 4, ground := Go.Ground.phase }, { on := 5, ground := Go.Ground.phase }, { on := 6, ground := Go.Ground.textOnly Go.Departure.lateStores }], guard := none }) (v := ?_) rfl (by kernel_rfl) (by kernel_rfl) (by kernel_rfl) (fun _ _ _ h => h) (Or.inl ⟨by rfl, ?_⟩) (by assumption) ?_
  rotate_left
  · intro wS hSw
    (try dsimp only at hSw)
    go_simp
    (try with_reducible rfl)
  (try simp only [Act.put, List.setIfInBounds_toArray, List.set_cons_zero, List.set_cons_succ])
  refine wpAnyH_take (i := 8) (oi := { dst := some 6, op := Go.Op.assign (Go.Operand.tmp 24), type := 28, pos := "law.go:28", after := #[{ on := 6, ground := Go.Ground.data }, { on := 7, ground := Go.Ground.chain }, { on := 0, ground := Go.Ground.phase }, { on := 1, ground := Go.Ground.phase }, { on := 2, ground := Go.Ground.phase }, { on := 3, ground := Go.Ground.phase }, { on := 4, ground := Go.Ground.phase }, { on := 5, ground := Go.Ground.phase }, { on := 6, ground := Go.Ground.phase }, { on := 7, ground := Go.Ground.phase }], guard := none }) (v := ?_) rfl (by kernel_rfl) (by kernel_rfl) (by kernel_rfl) (fun _ _ _ h => h) (Or.inl ⟨by rfl, ?_⟩) (by assumption) ?_
  rotate_left
  · intro wS hSw
    (try dsimp only at hSw)
    go_simp
    (try with_reducible rfl)
  (try simp only [Act.put, List.setIfInBounds_toArray, List.set_cons_zero, List.set_cons_succ])
  refine wpAnyH_done (by kernel_rfl) ?_ _
  have HBX := Lib.hid (HB3.out.trans (hb2.mono HB3.out.size))
  have c0 : w4.cell? ⟨bq, oq, none⟩ = some (.int .u8 83) := cell_below hb2 HX.out.1
  have c15 : w4.cell? ⟨bq, oq + 15, none⟩ = some (.int .u8 139) := cell_below hb2 HX.out.2
  have HNUM := Lib.hid (num_err 11 w4 (HH.out.below HBX.out HH.out.2))
  clear hb2
  go_wp2_with (go_at_call 7; refine HNUM.out.mono ?_; refine Hid.out ?_)
  refine Lib.hid ?_
  rintro e w6 ⟨rfl, hb6⟩
  have HB6 := Lib.hid (HBX.out.trans (hb6.mono HBX.out.size))
  clear hb6 c0 c15
  go_wp2_with fail
  go_ret
  exact ⟨rfl, HB6.out⟩
end Go.Proofs.YtkcbckafibjflaaGreatDoor
namespace Go.Proofs.YtkcbckafibjflaaGreatDoor
set_option linter.unusedVariables false
set_option linter.unusedSimpArgs false
open Go.RowKit
set_option maxRecDepth 100000 in
set_option maxHeartbeats 4000000 in
theorem seal_nil (l n an : Nat) (on ob oa : Option Addr) (cn cb ca : Nat) (w : World)  :
    Calls Tryz.prog 5 #[.pointer none, .slice on l cn, .slice ob n cb, .slice oa an ca] w fun e w' => e = .returned (.tuple #[.slice none 0 0, .iface 47 (.int .i64 1)]) ∧ w' = w := by
  go_enter Tryz.func5, Tryz.ntmps5
  go_wp2_with fail
  refine bodyPost_ret (results_tmp2 rfl _ _ _) rfl ?_
  exact ⟨rfl, rfl⟩
set_option maxRecDepth 100000 in
set_option maxHeartbeats 4000000 in
theorem seal_nonce (g : Nat) (l n an : Nat) (on ob oa : Option Addr) (cn cb ca : Nat) (w : World) (hl : l ≠ 12) :
    Calls Tryz.prog 5 #[.pointer (some ⟨g, 0, none⟩), .slice on l cn, .slice ob n cb, .slice oa an ca] w fun e w' => e = .returned (.tuple #[.slice none 0 0, .iface 47 (.int .i64 1)]) ∧ w' = w := by
  have l1 : ¬ (l : Int) = 12 := by omega
  have l2 : ¬ l = 12 := hl
  have l3 : decide ((l : Int) = 12) = false := decide_eq_false l1
  have l4 : ((l : Int) == 12) = false := by simp only [beq_eq_false_iff_ne]; exact l1
  go_enter Tryz.func5, Tryz.ntmps5
  go_wp2_with fail
  refine bodyPost_ret (results_tmp2 rfl _ _ _) rfl ?_
  exact ⟨rfl, rfl⟩
set_option maxRecDepth 100000 in
set_option maxHeartbeats 4000000 in
theorem seal_long (g : Nat) (l n an : Nat) (on ob oa : Option Addr) (cn cb ca : Nat) (w : World) (hl : l = 12) (h5 : 2048 < n) :
    Calls Tryz.prog 5 #[.pointer (some ⟨g, 0, none⟩), .slice on l cn, .slice ob n cb, .slice oa an ca] w fun e w' => e = .returned (.tuple #[.slice none 0 0, .iface 47 (.int .i64 1)]) ∧ w' = w := by
  subst hl
  have n0 : (2048 : Int) < (n : Int) := by omega
  have n1 : decide ((2048 : Int) < (n : Int)) = true := decide_eq_true n0
  go_enter Tryz.func5, Tryz.ntmps5
  go_wp2_with fail
  refine bodyPost_ret (results_tmp2 rfl _ _ _) rfl ?_
  exact ⟨rfl, rfl⟩
set_option maxRecDepth 100000 in
set_option maxHeartbeats 4000000 in
theorem seal_aad (g : Nat) (l n an : Nat) (on ob oa : Option Addr) (cn cb ca : Nat) (w : World) (hl : l = 12) (h5 : n ≤ 2048) (h6 : 2048 < an) :
    Calls Tryz.prog 5 #[.pointer (some ⟨g, 0, none⟩), .slice on l cn, .slice ob n cb, .slice oa an ca] w fun e w' => e = .returned (.tuple #[.slice none 0 0, .iface 47 (.int .i64 1)]) ∧ w' = w := by
  subst hl
  have n0 : ¬ (2048 : Int) < (n : Int) := by omega
  have n1 : decide ((2048 : Int) < (n : Int)) = false := decide_eq_false n0
  have a0 : (2048 : Int) < (an : Int) := by omega
  have a1 : decide ((2048 : Int) < (an : Int)) = true := decide_eq_true a0
  go_enter Tryz.func5, Tryz.ntmps5
  go_wp2_with fail
  refine bodyPost_ret (results_tmp2 rfl _ _ _) rfl ?_
  exact ⟨rfl, rfl⟩
set_option maxRecDepth 100000 in
set_option maxHeartbeats 4000000 in
theorem open_nil (l n an : Nat) (on ob oa : Option Addr) (cn cb ca : Nat) (w : World)  :
    Calls Tryz.prog 6 #[.pointer none, .slice on l cn, .slice ob n cb, .slice oa an ca] w fun e w' => e = .returned (.tuple #[.slice none 0 0, .iface 47 (.int .i64 1)]) ∧ w' = w := by
  go_enter Tryz.func6, Tryz.ntmps6
  go_wp2_with fail
  refine bodyPost_ret (results_tmp2 rfl _ _ _) rfl ?_
  exact ⟨rfl, rfl⟩
set_option maxRecDepth 100000 in
set_option maxHeartbeats 4000000 in
theorem open_nonce (g : Nat) (l n an : Nat) (on ob oa : Option Addr) (cn cb ca : Nat) (w : World) (hl : l ≠ 12) :
    Calls Tryz.prog 6 #[.pointer (some ⟨g, 0, none⟩), .slice on l cn, .slice ob n cb, .slice oa an ca] w fun e w' => e = .returned (.tuple #[.slice none 0 0, .iface 47 (.int .i64 1)]) ∧ w' = w := by
  have l1 : ¬ (l : Int) = 12 := by omega
  have l2 : ¬ l = 12 := hl
  have l3 : decide ((l : Int) = 12) = false := decide_eq_false l1
  have l4 : ((l : Int) == 12) = false := by simp only [beq_eq_false_iff_ne]; exact l1
  go_enter Tryz.func6, Tryz.ntmps6
  go_wp2_with fail
  refine bodyPost_ret (results_tmp2 rfl _ _ _) rfl ?_
  exact ⟨rfl, rfl⟩
set_option maxRecDepth 100000 in
set_option maxHeartbeats 4000000 in
theorem open_long (g : Nat) (l n an : Nat) (on ob oa : Option Addr) (cn cb ca : Nat) (w : World) (hl : l = 12) (h5 : 2064 < n) :
    Calls Tryz.prog 6 #[.pointer (some ⟨g, 0, none⟩), .slice on l cn, .slice ob n cb, .slice oa an ca] w fun e w' => e = .returned (.tuple #[.slice none 0 0, .iface 47 (.int .i64 1)]) ∧ w' = w := by
  subst hl
  have n0 : (2064 : Int) < (n : Int) := by omega
  have n1 : decide ((2064 : Int) < (n : Int)) = true := decide_eq_true n0
  go_enter Tryz.func6, Tryz.ntmps6
  go_wp2_with fail
  refine bodyPost_ret (results_tmp2 rfl _ _ _) rfl ?_
  exact ⟨rfl, rfl⟩
set_option maxRecDepth 100000 in
set_option maxHeartbeats 4000000 in
theorem open_aad (g : Nat) (l n an : Nat) (on ob oa : Option Addr) (cn cb ca : Nat) (w : World) (hl : l = 12) (h5 : n ≤ 2064) (h6 : 2048 < an) :
    Calls Tryz.prog 6 #[.pointer (some ⟨g, 0, none⟩), .slice on l cn, .slice ob n cb, .slice oa an ca] w fun e w' => e = .returned (.tuple #[.slice none 0 0, .iface 47 (.int .i64 1)]) ∧ w' = w := by
  subst hl
  have n0 : ¬ (2064 : Int) < (n : Int) := by omega
  have n1 : decide ((2064 : Int) < (n : Int)) = false := decide_eq_false n0
  have a0 : (2048 : Int) < (an : Int) := by omega
  have a1 : decide ((2048 : Int) < (an : Int)) = true := decide_eq_true a0
  go_enter Tryz.func6, Tryz.ntmps6
  go_wp2_with fail
  refine bodyPost_ret (results_tmp2 rfl _ _ _) rfl ?_
  exact ⟨rfl, rfl⟩
set_option maxRecDepth 100000 in
set_option maxHeartbeats 4000000 in
theorem open_cut (g : Nat) (l n an : Nat) (on ob oa : Option Addr) (cn cb ca : Nat) (w : World) (hl : l = 12) (h5 : n < 16) (h6 : an ≤ 2048) :
    Calls Tryz.prog 6 #[.pointer (some ⟨g, 0, none⟩), .slice on l cn, .slice ob n cb, .slice oa an ca] w fun e w' => e = .returned (.tuple #[.slice none 0 0, .iface 47 (.int .i64 11)]) ∧ w' = w := by
  subst hl
  have n0 : ¬ (2064 : Int) < (n : Int) := by omega
  have n1 : decide ((2064 : Int) < (n : Int)) = false := decide_eq_false n0
  have a0 : ¬ (2048 : Int) < (an : Int) := by omega
  have a1 : decide ((2048 : Int) < (an : Int)) = false := decide_eq_false a0
  have n2 : (n : Int) < 16 := by omega
  have n3 : decide ((n : Int) < 16) = true := decide_eq_true n2
  go_enter Tryz.func6, Tryz.ntmps6
  go_wp2_with fail
  refine bodyPost_ret (results_tmp2 rfl _ _ _) rfl ?_
  exact ⟨rfl, rfl⟩
set_option maxRecDepth 100000 in
set_option maxHeartbeats 4000000 in
theorem opens_no (p : Option Addr) (k : Int) (l n an : Nat) (on ob oa : Option Addr) (cn cb ca : Nat) (w : World)
    (h : Calls Tryz.prog 6 #[.pointer p, .slice on l cn, .slice ob n cb, .slice oa an ca] w fun e w' => e = .returned (.tuple #[.slice none 0 0, .iface 47 (.int .i64 k)]) ∧ w' = w) :
    Calls Tryz.prog 8 #[.pointer p, .slice on l cn, .slice ob n cb, .slice oa an ca] w fun e w' => e = .returned (.bool false) ∧ w' = w := by
  have HO := Lib.hid h
  clear h
  go_enter Tryz.func8, Tryz.ntmps8
  go_wp2_with fail
  refine HO.out.mono ?_
  rintro e w1 ⟨rfl, rfl⟩
  go_wp2_with fail
  go_ret
  exact ⟨rfl, rfl⟩
set_option maxRecDepth 100000 in
set_option maxHeartbeats 4000000 in
theorem aes_bad (l : Nat) (ok : Option Addr) (ck : Nat) (w : World) (hl : l ≠ 32) :
    Calls Tryz.prog 16 #[.slice ok l ck] w fun e w' => e = .returned (.tuple #[.pointer none, .iface 47 (.int .i64 1)]) ∧ Below w.heap.size w w' := by
  have l1 : ¬ (l : Int) = 32 := by omega
  have l2 : ¬ l = 32 := hl
  have l3 : decide ((l : Int) = 32) = false := decide_eq_false l1
  have l4 : ((l : Int) == 32) = false := by simp only [beq_eq_false_iff_ne]; exact l1
  go_enter Tryz.func16, Tryz.ntmps16
  go_wp2_with fail
  refine bodyPost_ret (results_tmp2 rfl _ _ _) rfl ?_
  exact ⟨rfl, Below.refl _ _⟩
set_option maxRecDepth 100000 in
set_option maxHeartbeats 4000000 in
theorem gnew_bad (l : Nat) (ok : Option Addr) (ck : Nat) (w : World) (hl : l ≠ 32) :
    Calls Tryz.prog 9 #[.slice ok l ck] w fun e w' => e = .returned (.tuple #[.pointer none, .iface 47 (.int .i64 1)]) ∧ Below w.heap.size w w' := by
  have HA := Lib.hid (aes_bad l ok ck w hl)
  clear hl
  go_enter Tryz.func9, Tryz.ntmps9
  go_wp2_with fail
  refine HA.out.mono ?_
  rintro e w1 ⟨rfl, hb⟩
  have HB := Lib.hid hb
  clear hb
  go_wp2_with fail
  refine bodyPost_ret (results_tmp2 rfl _ _ _) rfl ?_
  exact ⟨rfl, HB.out⟩
end Go.Proofs.YtkcbckafibjflaaGreatDoor
