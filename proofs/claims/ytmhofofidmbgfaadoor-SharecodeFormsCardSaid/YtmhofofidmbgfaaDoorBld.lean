/- strings.Builder: bytes written one by one; the string. -/
import Derived.Test.YtmhofofidmbgfaaDoorSc0
import Derived.Lib.Builder
import Derived.Lib.UnsafeStr
import Derived.Laws.Externs
import Derived.Shelf.RegionOpenPlain
namespace Go.Proofs.YtmhofofidmbgfaaDoor
set_option linter.unusedVariables false
set_option linter.unusedSimpArgs false
open Go.RowKit

/-- A builder that has n bytes, nothing of it read yet: block b; its row lies behind it. -/
structure BlS (w : World) (b : Nat) (v : Value) (n : Nat) (F : Nat → Nat) : Prop where
  blk : ∃ p, (p = .pointer none ∨ p = .pointer (some ⟨b, 0, none⟩)) ∧ Blk w b #[p, v] 133
  row : Grow w (b + 1) v n F
  bd : ∀ i, i < n → F i < 256

theorem BlS.new (w : World) (F : Nat → Nat) : BlS (w.alloc (.cells #[.pointer none, .slice none 0 0] 133)) w.heap.size (.slice none 0 0) 0 F := ⟨⟨_, .inl rfl, Blk.new _ _ _⟩, Grow.nil _ _ _, fun i hi => by omega⟩
theorem BlS.lt {w : World} {b n : Nat} {v : Value} {F : Nat → Nat} (h : BlS w b v n F) : b < w.heap.size := by obtain ⟨p, _, hb⟩ := h.blk; exact Blk.lt hb
theorem BlS.later {w w' : World} {b n : Nat} {v : Value} {F : Nat → Nat} (h : BlS w b v n F) (hb : Below w.heap.size w w') : BlS w' b v n F := by
  obtain ⟨p, hp, hk⟩ := h.blk
  exact ⟨⟨p, hp, Blk.below hk hb (Blk.lt hk)⟩, h.row.later hb, h.bd⟩
theorem BlS.congr {w : World} {b n : Nat} {v : Value} {F G : Nat → Nat} (h : BlS w b v n F) (he : ∀ i, i < n → F i = G i) : BlS w b v n G := ⟨h.blk, h.row.congr he, fun i hi => by rw [← he i hi]; exact h.bd i hi⟩

theorem bld_info : (Tryd.prog.info? 133).map (·.size) = some 2 := by kernel_rfl
theorem bld_lies : liesAt Tryd.prog Tryd.prog.depth 133 (2 / Tryd.prog.cellsOf 133) 0 133 1 = true := by kernel_rfl

set_option maxHeartbeats 1000000 in
set_option maxRecDepth 100000 in
theorem copyCheck_any (b : Nat) (p v : Value) (w : World) (hp : p = .pointer none ∨ p = .pointer (some ⟨b, 0, none⟩)) (h : Blk w b #[p, v] 133) :
    Calls Tryd.prog 79 #[.pointer (some ⟨b, 0, none⟩)] w fun e w' => e = .returned (.tuple #[]) ∧ Blk w' b #[.pointer (some ⟨b, 0, none⟩), v] 133 ∧ Own b w w' := by
  obtain ⟨j, hj, hjs⟩ := Option.map_eq_some_iff.1 bld_info
  have hsh : w.shape? b = some (133, 2) := by unfold Blk at h; simp [World.shape?, h]
  have hf := h.free 0
  rcases hp with rfl | rfl
  · have c0 : w.cell? ⟨b, 0, none⟩ = some (.pointer none) := by rw [Blk.cell h]; rfl
    have H := Lib.hid h
    clear h
    go_enter Tryd.func79, Tryd.ntmps79
    go_wp2
    rw [Lib.run_to_unsafe w ⟨b, 0, none⟩ Tryd.underlying131 Tryd.underlying114 hj (by rw [hjs]; decide) hsh (Nat.zero_lt_succ 1)]
    simp only [Result.andThen]
    rw [Oper.upon_value]
    go_wp2
    rw [run_callFunc_extern Tryd.func84 (by kernel_rfl) (by kernel_rfl) (by kernel_rfl) (e := Extern.AbiNoEscape.same) (by kernel_rfl)]
    rw [Lib.run_noEscape]
    simp only [Result.andThen]
    rw [Oper.upon_value]
    go_wp2
    rw [Lib.run_from_unsafe w ⟨b, 0, none⟩ Tryd.underlying114 Tryd.underlying131 hj hsh bld_lies]
    simp only [Result.andThen]
    rw [Oper.upon_value]
    go_wp2
    go_end0
    exact ⟨rfl, H.out.set 0 _, (Own.refl _ _).set 0 _⟩
  · have c0 : w.cell? ⟨b, 0, none⟩ = some (.pointer (some ⟨b, 0, none⟩)) := by rw [Blk.cell h]; rfl
    have H := Lib.hid h
    clear h
    go_enter Tryd.func79, Tryd.ntmps79
    go_wp2
    rw [Lib.run_neq_ptr_same w _ Tryd.underlying131 hj]
    go_wp2
    go_end0
    exact ⟨rfl, H.out, Own.refl _ _⟩

set_option maxHeartbeats 1000000 in
set_option maxRecDepth 100000 in
/-- WriteByte. -/
theorem writeb_any (b n x : Nat) (v : Value) (F : Nat → Nat) (w : World) (h : BlS w b v n F) (hx : x < 256) (hn : n < 10000000000000) :
    Calls Tryd.prog 65 #[.pointer (some ⟨b, 0, none⟩), .int .u8 (x : Int)] w fun e w' => e = .returned .nilIface ∧ (∃ v', BlS w' b v' (n + 1) (catF n F (fun _ => x))) ∧ Below b w w' := by
  obtain ⟨p, hp, hk⟩ := h.blk
  have HC := Lib.hid (copyCheck_any b p v w hp hk)
  have HR := Lib.hid h.row
  have HBD := Lib.hid h.bd
  have HLT := Lib.hid (Blk.lt hk)
  have HX := Lib.hid hx
  clear hk h hp
  go_enter Tryd.func65, Tryd.ntmps65
  go_wp2_with fail
  refine HC.out.mono ?_
  rintro e w1 ⟨rfl, hB1, hO1⟩
  have c1 : w1.cell? ⟨b, 1, none⟩ = some v := by rw [Blk.cell hB1]; rfl
  have HB1 := Lib.hid hB1
  have HO1 := Lib.hid hO1
  have HR1 := Lib.hid (HR.out.own hO1 (Nat.lt_succ_self _))
  have HL1 : Hid (b + 1 ≤ w1.heap.size) := Lib.hid (by have := HO1.out.size; have := HLT.out; omega)
  clear hB1 hO1 HC HR
  go_wp2_with (first
    | (refine wpList_appO rfl (.tmp 11) (.tmp 13) rfl (b + 1) v n 1 1 (some ⟨w1.heap.size, 0, none⟩) F (fun _ => x) (w1.alloc (.cells #[.int .u8 (x : Int)] 5)) rfl (HR1.out.later ((Below.refl _ _).alloc (Nat.le_refl _) _)) rfl (fun e => by cases e) (one_byte HX.out) (by omega) (Nat.le_trans HL1.out (by simp)) ?_
       refine Hid.out ?_))
  refine Lib.hid ?_
  intro v2 w2 hG2 hg2 hob2
  have hbl : Below (b + 1) w1 w2 := ((Below.refl _ w1).alloc HL1.out _).trans (grow_bel (HR1.out.later ((Below.refl _ _).alloc (Nat.le_refl _) _)) (Nat.le_trans HL1.out (by simp)) hg2)
  have hB2 : Blk w2 b #[.pointer (some ⟨b, 0, none⟩), v] 133 := Blk.below HB1.out hbl (Nat.lt_succ_self _)
  have c2 : w2.cell? ⟨b, 1, none⟩ = some v := by rw [Blk.cell hB2]; rfl
  have f2 := hB2.free 1
  have HFB : Hid (∀ i, i < n + 1 → catF n F (fun _ => x) i < 256) := Lib.hid (catF_b HBD.out (fun _ _ => HX.out))
  obtain ⟨g2, cp, hv2, hgb, hBy, hcp, hmx⟩ := hG2.someN (by omega) HFB.out
  subst hv2
  have HB2 := Lib.hid hB2
  have HG2 := Lib.hid hG2
  have HBL := Lib.hid hbl
  clear hG2 hg2 hob2 hbl hB2 hgb hBy hcp hmx c1
  go_wp2_with fail
  go_ret
  have hO3 : Own b w2 (w2.setCell ⟨b, 1, none⟩ (.slice (some ⟨g2, 0, none⟩) (n + 1) cp)) := (Own.refl _ _).set 1 _
  refine ⟨rfl, ⟨_, ⟨⟨_, .inr rfl, HB2.out.set 1 _⟩, HG2.out.own hO3 (Nat.lt_succ_self _), HFB.out⟩⟩, ?_⟩
  exact (HO1.out.below (Nat.le_refl _) (Nat.le_of_lt HLT.out)).trans ((HBL.out.mono (Nat.le_succ _)).trans (hO3.below (Nat.le_refl _) (by have := HBL.out.size; have := HL1.out; omega)))

def strL (n : Nat) (F : Nat → Nat) : List UInt8 := ((List.range n).map fun i => (F i : Int)).map fun n => UInt8.ofNat n.toNat
theorem strL_len (n : Nat) (F : Nat → Nat) : (strL n F).length = n := by simp [strL]
theorem strL_str (n : Nat) (F : Nat → Nat) : (⟨(strL n F).toArray⟩ : ByteArray) = strF n F := rfl

set_option maxHeartbeats 1000000 in
set_option maxRecDepth 100000 in
/-- String, of a builder that has some bytes. -/
theorem bstr_any (b n : Nat) (v : Value) (F : Nat → Nat) (w : World) (h : BlS w b v n F) (h1 : 1 ≤ n) :
    Calls Tryd.prog 66 #[.pointer (some ⟨b, 0, none⟩)] w fun e w' => e = .returned (.string (strF n F)) ∧ Below (b + 1) w w' := by
  obtain ⟨p, hp, hk⟩ := h.blk
  obtain ⟨hlen, ⟨_, h0⟩ | ⟨g, cap, cur, rfl, hbg, hg, hnc, hcm, hcs, htk⟩⟩ := h.row
  · omega
  have c1 : w.drew.cell? ⟨b, 1, none⟩ = some (.slice (some ⟨g, 0, none⟩) n cap) := by
    have := hk.drew
    rw [Blk.cell this]; rfl
  have hcell : ∀ j x, (strL n F)[j]? = some x → w.drew.cell? ((⟨g, 0, none⟩ : Addr).add j) = some (.int .u8 x.toNat) := fun j x hx => by
    have hj : j < n := by
      have := (List.getElem?_eq_some_iff.1 hx).1
      rwa [strL_len] at this
    have hx' : x = UInt8.ofNat (F j) := by
      have : (strL n F)[j]? = some (UInt8.ofNat (F j)) := by simp [strL, hj]
      rw [this] at hx; exact (Option.some.inj hx).symm
    obtain ⟨oa, cp, hv, hB, _⟩ := Grow.bytes ⟨hlen, .inr ⟨g, cap, cur, rfl, hbg, hg, hnc, hcm, hcs, htk⟩⟩ h.bd
    cases hv
    obtain ⟨hlt, b', o', e, hc⟩ := hB j hj
    cases e
    rw [hx']
    have : (UInt8.ofNat (F j)).toNat = F j := by simp; omega
    rw [this]
    by_cases j0 : j = 0
    · subst j0; simpa [Addr.add] using hc
    · simpa [Addr.add, j0] using hc
  have hSD : (Builtin.unsafeSliceData_ #[22] 157 #[.slice (some ⟨g, 0, none⟩) n cap]).run Tryd.prog w.drew = .ok (.pointer (some ⟨g, 0, none⟩)) w.drew :=
    Lib.run_unsafeSliceData_row _ _ _ _ _ _ (by omega)
  have hUS : (Builtin.unsafeString_ #[157, 3] 9 #[.pointer (some ⟨g, 0, none⟩), .int .i64 (n : Int)]).run Tryd.prog w.drew = .ok (.string (strF n F)) (w.drew.freeze ⟨g, 0, none⟩ n) := by
    have := Lib.run_unsafeString_row (P := Tryd.prog) w.drew 157 3 9 5 Tryd.underlying157 (by kernel_rfl) g cur.size (by have hg' : w.drew.heap[g]? = some (.cells cur 5 (0, 0)) := hg; simp [World.shape?, hg']) (strL n F) (by intro e; have := strL_len n F; rw [e] at this; simp at this; omega) (by rw [strL_len]; omega) (by rw [strL_len]; unfold maxLen at hcm; omega) hcell
    rw [strL_len, strL_str] at this
    exact this
  obtain ⟨S, hS⟩ : ∃ y, strF n F = y := ⟨_, rfl⟩
  have HBF : Hid (Below (b + 1) w (w.drew.freeze ⟨g, 0, none⟩ n)) := Lib.hid (Lib.below_freeze (Below.drew (Below.refl (b + 1) w)) (p := ⟨g, 0, none⟩) hbg _)
  rw [hS] at hUS ⊢
  clear hk h hcell hlen hg hcs htk hp hcm
  have mixed : Tryd.prog.follows .mixedOrders = true := by kernel_rfl
  go_enter Tryd.func66, Tryd.ntmps66
  go_wp2
  go_region_o
  all_goals (go_wp2; go_ret; exact ⟨rfl, HBF.out⟩)
end Go.Proofs.YtmhofofidmbgfaaDoor
