/- Parts put together, by the program and by the document, side by side. -/
import Derived.Test.YtmhofofidmbgfaaDoorSj3
import Derived.Test.YtmhofofidmbgfaaDoorNum03
namespace Go.Proofs.YtmhofofidmbgfaaDoor
set_option linter.unusedVariables false
set_option linter.unusedSimpArgs false
open Go.RowKit

/-- An error, by its number. -/
def ErrJ (v : Value) (k : Nat) : Prop := (k = 0 ∧ v = .nilIface) ∨ (k ≠ 0 ∧ v = .iface 81 (.int .i64 (k : Int)))
theorem num_errj {v : Value} {k : Nat} (he : ErrJ v k) (w : World) (h : Handle w) :
    Calls Tryd.prog 16 #[v] w fun e w' => e = .returned (.int .i64 (k : Int)) ∧ Below w.heap.size w w' := by
  rcases he with ⟨rfl, rfl⟩ | ⟨_, rfl⟩
  · exact num_nil03 w
  · exact num_err03 k w h
set_option maxRecDepth 100000 in
set_option maxHeartbeats 2000000 in
theorem at_noneI (tp : Option Addr) (n cs : Nat) (x : Nat) (K N gen : Int) (oa : Option Addr) (w : World) (h : x = 0 ∨ N < (x : Int)) (hx : x < 256) :
    Calls Tryd.prog 23 #[.pointer tp, .slice oa n cs, .agg #[.int .i64 K, .int .i64 N, .int .u32 gen], .int .u8 (x : Int)] w fun e w' => e = .returned (.tuple #[.agg #[.int .u8 0, .int .u32 0, .slice none 0 0], .iface 81 (.int .i64 1)]) ∧ Below w.heap.size w w' := by
  obtain ⟨w0, hw0⟩ : ∃ y, (w.alloc (.cells #[.int .i64 K, .int .i64 N, .int .u32 gen] 28)).alloc (.cells #[.int .u8 0, .int .u32 0, .slice none 0 0] 52) = y := ⟨_, rfl⟩
  obtain ⟨b8, hb8⟩ : ∃ y, w.heap.size + 1 = y := ⟨_, rfl⟩
  have hB : Blk w0 b8 #[.int .u8 0, .int .u32 0, .slice none 0 0] 52 := by rw [← hw0, ← hb8]; simpa using Blk.new (w.alloc (.cells #[.int .i64 K, .int .i64 N, .int .u32 gen] 28)) #[.int .u8 0, .int .u32 0, .slice none 0 0] 52
  have hbl : Below w.heap.size w w0 := by rw [← hw0]; exact ((Below.refl _ _).alloc (Nat.le_refl _) _).alloc (by simp) _
  have c1 : w0.cell? ⟨w.heap.size, 1, none⟩ = some (.int .i64 N) := by rw [← hw0, cell_old (by simp)]; exact World.cell?_alloc_mark _ _ _ _ _
  have HX : Hid (Blk (w0.setCells b8 0 [.int .u8 0, .int .u32 0, .slice none 0 0]) b8 #[.int .u8 0, .int .u32 0, .slice none 0 0] 52 ∧ Below w.heap.size w (w0.setCells b8 0 [.int .u8 0, .int .u32 0, .slice none 0 0])) :=
    Lib.hid ⟨hB.whole3 rfl _ _ _, hbl.trans ((Own.setCells (b := b8) _ 0 w0).below (by omega) hbl.size)⟩
  have HTH : Hid (w0.there b8 0 3) := Lib.hid (hB.there (by decide))
  have hz := zsh_run
  clear hB hbl
  rcases Nat.eq_zero_or_pos x with h0 | h0
  · subst h0
    clear hx h
    go_enter Tryd.func23, Tryd.ntmps23
    go_wp2_with (first | (refine wpList_value rfl (exec_buildM (parts := #[]) (ps := #[]) (C := #[.int .u8 0, .int .u32 0, .slice none 0 0]) rfl rfl build_zsh) ?_) | (refine wpList_store_mid rfl 52 (.tmp 8) (.tmp 21) rfl b8 0 #[.int .u8 0, .int .u32 0, .slice none 0 0] rfl rfl HTH.out info_share3 (one_share _ _ _ _ _ _ _) ?_))
    refine bodyPost_ret (v := .tuple #[.agg #[.int .u8 0, .int .u32 0, .slice none 0 0], .iface 81 (.int .i64 1)]) ?_ rfl ⟨rfl, HX.out.2⟩
    exact results_cell_tmp' Tryd.results23 _ _ b8 52 #[.int .u8 0, .int .u32 0, .slice none 0 0] (0, 0) _ rfl HX.out.1 Tryd.underlying52 rfl info_share3
  · have h2 : N < (x : Int) := h.resolve_left (by omega)
    have h1 : ((x : Int) == 0) = false := by rw [beq_eq_false_iff_ne]; omega
    have h3 : (0 : Int) ≤ (x : Int) ∧ (x : Int) < 256 := by omega
    clear hx h
    go_enter Tryd.func23, Tryd.ntmps23
    go_wp2_with (first | (refine wpList_value rfl (exec_buildM (parts := #[]) (ps := #[]) (C := #[.int .u8 0, .int .u32 0, .slice none 0 0]) rfl rfl build_zsh) ?_) | (refine wpList_store_mid rfl 52 (.tmp 8) (.tmp 21) rfl b8 0 #[.int .u8 0, .int .u32 0, .slice none 0 0] rfl rfl HTH.out info_share3 (one_share _ _ _ _ _ _ _) ?_))
    refine bodyPost_ret (v := .tuple #[.agg #[.int .u8 0, .int .u32 0, .slice none 0 0], .iface 81 (.int .i64 1)]) ?_ rfl ⟨rfl, HX.out.2⟩
    exact results_cell_tmp' Tryd.results23 _ _ b8 52 #[.int .u8 0, .int .u32 0, .slice none 0 0] (0, 0) _ rfl HX.out.1 Tryd.underlying52 rfl info_share3
set_option maxRecDepth 100000 in
set_option maxHeartbeats 2000000 in
theorem at_bad (tp : Option Addr) (n cs : Nat) (x : Nat) (K N gen : Int) (oa : Option Addr) (w : World) (h : ¬ MayP K N) (hx1 : 1 ≤ x) (hxN : (x : Int) ≤ N) (hx : x < 256) :
    Calls Tryd.prog 23 #[.pointer tp, .slice oa n cs, .agg #[.int .i64 K, .int .i64 N, .int .u32 gen], .int .u8 (x : Int)] w fun e w' => e = .returned (.tuple #[.agg #[.int .u8 0, .int .u32 0, .slice none 0 0], .iface 81 (.int .i64 1)]) ∧ Below w.heap.size w w' := by
  obtain ⟨w0, hw0⟩ : ∃ y, (w.alloc (.cells #[.int .i64 K, .int .i64 N, .int .u32 gen] 28)).alloc (.cells #[.int .u8 0, .int .u32 0, .slice none 0 0] 52) = y := ⟨_, rfl⟩
  obtain ⟨b8, hb8⟩ : ∃ y, w.heap.size + 1 = y := ⟨_, rfl⟩
  have hB : Blk w0 b8 #[.int .u8 0, .int .u32 0, .slice none 0 0] 52 := by rw [← hw0, ← hb8]; simpa using Blk.new (w.alloc (.cells #[.int .i64 K, .int .i64 N, .int .u32 gen] 28)) #[.int .u8 0, .int .u32 0, .slice none 0 0] 52
  have hbl : Below w.heap.size w w0 := by rw [← hw0]; exact ((Below.refl _ _).alloc (Nat.le_refl _) _).alloc (by simp) _
  have c0 : w0.cell? ⟨w.heap.size, 0, none⟩ = some (.int .i64 K) := by rw [← hw0, cell_old (by simp)]; exact World.cell?_alloc_mark _ _ _ _ _
  have c1 : w0.cell? ⟨w.heap.size, 1, none⟩ = some (.int .i64 N) := by rw [← hw0, cell_old (by simp)]; exact World.cell?_alloc_mark _ _ _ _ _
  have c2 : w0.cell? ⟨w.heap.size, 2, none⟩ = some (.int .u32 gen) := by rw [← hw0, cell_old (by simp)]; exact World.cell?_alloc_mark _ _ _ _ _
  have HC := Lib.hid (through_bad tp n cs K N gen (x : Int) oa w0 (.inr h))
  have HB := Lib.hid (⟨hB, hbl⟩ : Blk w0 b8 #[.int .u8 0, .int .u32 0, .slice none 0 0] 52 ∧ Below w.heap.size w w0)
  have hz := zsh_run
  have h1 : ((x : Int) == 0) = false := by rw [beq_eq_false_iff_ne]; omega
  have h2 : decide (N < (x : Int)) = false := decide_eq_false (by omega)
  have h3 : (0 : Int) ≤ (x : Int) ∧ (x : Int) < 256 := by omega
  clear hB hbl hx h hx1 hxN
  go_enter Tryd.func23, Tryd.ntmps23
  go_wp2_with fail
  refine HC.out.mono ?_
  rintro e w1 ⟨rfl, hb⟩
  have hB1 : Blk w1 b8 #[.int .u8 0, .int .u32 0, .slice none 0 0] 52 := Blk.below HB.out.1 hb (Blk.lt HB.out.1)
  have hbw : Below w.heap.size w w1 := HB.out.2.trans (hb.mono HB.out.2.size)
  have HX : Hid (Blk (w1.setCells b8 0 [.int .u8 0, .int .u32 0, .slice none 0 0]) b8 #[.int .u8 0, .int .u32 0, .slice none 0 0] 52 ∧ Below w.heap.size w (w1.setCells b8 0 [.int .u8 0, .int .u32 0, .slice none 0 0])) :=
    Lib.hid ⟨hB1.whole3 rfl _ _ _, hbw.trans ((Own.setCells (b := b8) _ 0 w1).below (by omega) hbw.size)⟩
  have HTH : Hid (w1.there b8 0 3) := Lib.hid (hB1.there (by decide))
  clear hB1 hbw hb c0 c1 c2 hw0
  go_wp2_with (first | (refine wpList_value rfl (exec_buildM (parts := #[]) (ps := #[]) (C := #[.int .u8 0, .int .u32 0, .slice none 0 0]) rfl rfl build_zsh) ?_) | (refine wpList_store_mid rfl 52 (.tmp 8) (.tmp 33) rfl b8 0 #[.int .u8 0, .int .u32 0, .slice none 0 0] rfl rfl HTH.out info_share3 (one_share _ _ _ _ _ _ _) ?_))
  refine bodyPost_ret (v := .tuple #[.agg #[.int .u8 0, .int .u32 0, .slice none 0 0], .iface 81 (.int .i64 1)]) ?_ rfl ⟨rfl, HX.out.2⟩
  exact results_cell_tmp' Tryd.results23 _ _ b8 52 #[.int .u8 0, .int .u32 0, .slice none 0 0] (0, 0) _ rfl HX.out.1 Tryd.underlying52 rfl info_share3
/-- A row that reads as a string, as long as only the table changes. -/
def CV (tb : Nat) (v : Value) (S1 : ByteArray) (w : World) : Prop := ∀ w7, Own tb w w7 → (convert 22 9 v).run Tryd.prog w7 = .ok (.string S1) w7
theorem CV.own {tb : Nat} {v : Value} {S1 : ByteArray} {w w' : World} (h : CV tb v S1 w) (hO : Own tb w w') : CV tb v S1 w' := fun w7 h7 => h w7 (hO.trans h7)
theorem CV.nil {tb : Nat} {w : World} : CV tb (.slice none 0 0) (strF 0 (fun _ => 0)) w := fun w7 _ => (Grow.nil w7 0 _).conv
theorem CV.bytes {tb : Nat} {w : World} {g n cap : Nat} {f : Nat → Nat} (h : Bytes w (some ⟨g, 0, none⟩) n f) (hn : g ≠ tb) : CV tb (.slice (some ⟨g, 0, none⟩) n cap) (strF n f) w := fun w7 h7 => Bytes.conv (h.own h7 (Apart.of_ne hn))
/-- A row in some blocks that reads as a string, as long as they stay. -/
def CVI (lo hi : Nat) (v : Value) (S1 : ByteArray) (w : World) : Prop := hi ≤ w.heap.size ∧ ∀ w7 : World, (∀ k, lo ≤ k → k < hi → w7.heap[k]? = w.heap[k]?) → (convert 22 9 v).run Tryd.prog w7 = .ok (.string S1) w7
theorem CVI.own {lo hi b : Nat} {v : Value} {S1 : ByteArray} {w w' : World} (h : CVI lo hi v S1 w) (hO : Own b w w') (hb : b < lo ∨ hi ≤ b) : CVI lo hi v S1 w' :=
  ⟨Nat.le_trans h.1 hO.size, fun w7 h7 => h.2 w7 fun k h1 h2 => (h7 k h1 h2).trans (hO.block k (Nat.lt_of_lt_of_le h2 h.1) (by omega))⟩
theorem CVI.later {lo hi : Nat} {v : Value} {S1 : ByteArray} {w w' : World} (h : CVI lo hi v S1 w) (hb : Below w.heap.size w w') : CVI lo hi v S1 w' :=
  ⟨Nat.le_trans h.1 hb.size, fun w7 h7 => h.2 w7 fun k h1 h2 => (h7 k h1 h2).trans (hb.block k (Nat.lt_of_lt_of_le h2 h.1))⟩
theorem CVI.get {lo hi : Nat} {v : Value} {S1 : ByteArray} {w : World} (h : CVI lo hi v S1 w) : (convert 22 9 v).run Tryd.prog w = .ok (.string S1) w := h.2 w fun _ _ _ => rfl
theorem CVI.nil {lo : Nat} {w : World} : CVI lo w.heap.size (.slice none 0 0) (strF 0 (fun _ => 0)) w := ⟨Nat.le_refl _, fun w7 _ => (Grow.nil w7 0 _).conv⟩
theorem CVI.bytes {lo : Nat} {w : World} {g n cap : Nat} {f : Nat → Nat} (h : Bytes w (some ⟨g, 0, none⟩) n f) (hg : lo ≤ g) : CVI lo w.heap.size (.slice (some ⟨g, 0, none⟩) n cap) (strF n f) w := ⟨Nat.le_refl _, fun w7 h7 => Bytes.conv fun k hk => by
  obtain ⟨h1, b, off, e, hc⟩ := h k hk
  cases e
  have hlt : g < w.heap.size := World.block_lt_of_cell? w _ hc
  refine ⟨h1, g, 0, rfl, ?_⟩
  rw [← hc]; exact World.cell?_of_block (h7 g hg hlt)⟩
/-- Parts put together by the program and by the document: the same strings, the same error. -/
theorem join_pair (n gen : Nat) (K N : Int) (S : Nat → Sh) (hix : ∀ i, i < n → (S i).ix < 256) (hn : n ≤ 1000) :
    ∃ (E : Nat) (Sx : Nat → ByteArray),
      (∀ (tb cs : Nat) (oa : Option Addr) (w : World), TabIn w tb → Shs tb w oa n S → n ≤ cs → cs ≤ maxLen → Calls Tryd.prog 20 #[.pointer (some ⟨tb, 0, none⟩), .slice oa n cs, .agg #[.int .i64 K, .int .i64 N, .int .u32 (gen : Int)]] w
        fun e w' => ∃ o l c ev, e = .returned (.tuple #[.slice o l c, ev]) ∧ ErrJ ev E ∧ CV tb (.slice o l c) (Sx 0) w' ∧ Left tb w w') ∧
      (∀ (x tb cs : Nat) (oa : Option Addr) (w : World), x < 256 → tb < w.heap.size → Shs tb w oa n S → Calls Tryd.prog 22 #[.slice oa n cs, .agg #[.int .i64 K, .int .i64 N, .int .u32 (gen : Int)], .int .u8 (x : Int)] w
        fun e w' => ∃ o l c, e = .returned (.tuple #[.slice o l c, .int .i64 (E : Int)]) ∧ CV tb (.slice o l c) (Sx x) w' ∧ Below w.heap.size w w') ∧
      (∀ (x tb cs : Nat) (oa : Option Addr) (w : World), 1 ≤ x → (x : Int) ≤ N → x < 256 → TabIn w tb → Shs tb w oa n S → n ≤ cs → cs ≤ maxLen → Calls Tryd.prog 23 #[.pointer (some ⟨tb, 0, none⟩), .slice oa n cs, .agg #[.int .i64 K, .int .i64 N, .int .u32 (gen : Int)], .int .u8 (x : Int)] w
        fun e w' => ∃ o l c, ((E = 0 ∧ e = .returned (.tuple #[.agg #[.int .u8 (x : Int), .int .u32 (gen : Int), .slice o l c], .nilIface])) ∨ (E ≠ 0 ∧ e = .returned (.tuple #[.agg #[.int .u8 0, .int .u32 0, .slice o l c], .iface 81 (.int .i64 (E : Int))]))) ∧ CVI w.heap.size w'.heap.size (.slice o l c) (Sx x) w' ∧ Left tb w w') := by
  by_cases hm : MayP K N
  · obtain ⟨hK2, hKN, hN⟩ := hm
    obtain ⟨Kp, rfl⟩ := Int.eq_ofNat_of_zero_le (show (0 : Int) ≤ K by omega)
    obtain ⟨Np, rfl⟩ := Int.eq_ofNat_of_zero_le (show (0 : Int) ≤ N by omega)
    refine ⟨needE S n Kp gen, fun x => if needE S n Kp gen = 0 then strF (S 0).len (jnF S x Kp) else strF 0 (fun _ => 0), ?_, ?_, ?_⟩
    · intro tb cs oa w hT hS hnc hm
      refine (combine_any tb n cs Kp Np gen oa S w hT hS hix hnc hm (by omega) (by omega) (by omega)).mono ?_
      have htl := hT.lt
      rintro e w' (⟨h0, g, rfl, hg, hR, hL⟩ | ⟨h0, rfl, hL⟩)
      · exact ⟨_, _, _, _, rfl, .inl ⟨h0, rfl⟩, by dsimp only; rw [if_pos h0]; exact CV.bytes (hR.bytes fun _ _ => jnF_lt _ _ _ _) (by omega), hL⟩
      · exact ⟨_, _, _, _, rfl, .inr ⟨h0, rfl⟩, by dsimp only; rw [if_neg h0]; exact CV.nil, hL⟩
    · intro x tb cs oa w hx ht hS
      refine (rcomb_any tb n cs Kp Np gen x oa S w hS hix hn (by omega) (by omega) (by omega) hx).mono ?_
      rintro e w' (⟨h0, g, cap, rfl, hg, hB, hb⟩ | ⟨h0, rfl, hb⟩)
      · exact ⟨_, _, _, by rw [h0]; rfl, by dsimp only; rw [if_pos h0]; exact CV.bytes hB (by omega), hb⟩
      · exact ⟨_, _, _, rfl, by dsimp only; rw [if_neg h0]; exact CV.nil, hb⟩
    · intro x tb cs oa w hx1 hxN hx hT hS hnc hm
      refine (at_any tb n cs Kp Np gen x oa S w hT hS hix hnc hm (by omega) (by omega) (by omega) hx1 (by omega)).mono ?_
      have htl := hT.lt
      rintro e w' (⟨h0, g, rfl, hg, hR, hL⟩ | ⟨h0, rfl, hL⟩)
      · exact ⟨_, _, _, .inl ⟨h0, rfl⟩, by dsimp only; rw [if_pos h0]; exact CVI.bytes (hR.bytes fun _ _ => jnF_lt _ _ _ _) hg, hL⟩
      · exact ⟨_, _, _, .inr ⟨h0, rfl⟩, by dsimp only; rw [if_neg h0]; exact CVI.nil, hL⟩
  · refine ⟨1, fun _ => strF 0 (fun _ => 0), ?_, ?_, ?_⟩
    · intro tb cs oa w hT hS _ _
      refine (combine_bad (some ⟨tb, 0, none⟩) n cs K N gen oa w (.inr hm)).mono ?_
      rintro e w' ⟨rfl, hb⟩
      exact ⟨_, _, _, _, rfl, .inr ⟨by decide, rfl⟩, CV.nil, hT.below hb, Own.of_below hb⟩
    · intro x tb cs oa w _ _ _
      refine (rcomb_no oa n cs K N gen x w hm).mono ?_
      rintro e w' ⟨rfl, hb⟩
      exact ⟨_, _, _, rfl, CV.nil, hb⟩
    · intro x tb cs oa w hx1 hxN hx hT hS _ _
      refine (at_bad (some ⟨tb, 0, none⟩) n cs x K N gen oa w hm hx1 hxN hx).mono ?_
      rintro e w' ⟨rfl, hb⟩
      exact ⟨_, _, _, .inr ⟨by decide, rfl⟩, CVI.nil, hT.below hb, Own.of_below hb⟩
end Go.Proofs.YtmhofofidmbgfaaDoor
