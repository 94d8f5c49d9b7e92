/- ShaPieces walked. -/
import Derived.Test.YtbblibddikdakaaDoorShA
namespace Go.Proofs.YtbblibddikdakaaDoor
set_option linter.unusedVariables false
set_option linter.unusedSimpArgs false
open Go.RowKit

theorem clone_b {w w1 w2 : World} (h : Below w.heap.size w w1) : w.heap.size ≤ w1.heap.size := h.size
theorem Bytes.none0 {w : World} (f : Nat → Nat) (oa : Option Addr) : Bytes w oa 0 f := fun k hk => absurd hk (Nat.not_lt_zero _)
theorem catF_lt {n m : Nat} {f g : Nat → Nat} (hf : ∀ i, i < n → f i < 256) (hg : ∀ i, i < m → g i < 256) : ∀ i, i < n + m → catF n f g i < 256 := fun i hi => by
  unfold catF
  by_cases e : i < n
  · rw [if_pos e]; exact hf i e
  · rw [if_neg e]; exact hg _ (by omega)
theorem hob_or {v : Value} {w : World} (h : v.ownBlock = (Value.slice (some ⟨w.heap.size, 0, none⟩) 0 0).ownBlock ∨ v.ownBlock = some (w.alloc (.cells #[] 5)).heap.size) : v.ownBlock = some w.heap.size ∨ v.ownBlock = some (w.heap.size + 1) := by
  rcases h with e | e
  · exact .inl e
  · exact .inr (by rw [e]; simp)
def moreF : Nat → Nat := fun i => if i = 0 then 109 else if i = 1 then 111 else if i = 2 then 114 else 101
theorem moreF_lt : ∀ i, i < 4 → moreF i < 256 := by decide
theorem more_bytes {w : World} : Bytes (w.alloc (.cells #[.int .u8 109, .int .u8 111, .int .u8 114, .int .u8 101] 5 (4, 5))) (some ⟨w.heap.size, 0, none⟩) 4 moreF := fun k hk => by
  rcases (by omega : k = 0 ∨ k = 1 ∨ k = 2 ∨ k = 3) with rfl | rfl | rfl | rfl
  · exact ⟨by decide, w.heap.size, 0, rfl, World.cell?_alloc_mark w #[.int .u8 109, .int .u8 111, .int .u8 114, .int .u8 101] 5 (4, 5) 0⟩
  · exact ⟨by decide, w.heap.size, 0, rfl, World.cell?_alloc_mark w #[.int .u8 109, .int .u8 111, .int .u8 114, .int .u8 101] 5 (4, 5) 1⟩
  · exact ⟨by decide, w.heap.size, 0, rfl, World.cell?_alloc_mark w #[.int .u8 109, .int .u8 111, .int .u8 114, .int .u8 101] 5 (4, 5) 2⟩
  · exact ⟨by decide, w.heap.size, 0, rfl, World.cell?_alloc_mark w #[.int .u8 109, .int .u8 111, .int .u8 114, .int .u8 101] 5 (4, 5) 3⟩
theorem conv_more (w : World) : (convert 25 25 (.slice (some ⟨w.heap.size, 0, none⟩) 4 4)).run Tryd.prog (w.alloc (.cells #[.int .u8 109, .int .u8 111, .int .u8 114, .int .u8 101] 5)) = .ok (.slice (some ⟨w.heap.size, 0, none⟩) 4 4) (w.alloc (.cells #[.int .u8 109, .int .u8 111, .int .u8 114, .int .u8 101] 5 (4, 5))) :=
  Joins.run_convert_bytes_const_at (P := Tryd.prog) w 25 5 #[.int .u8 109, .int .u8 111, .int .u8 114, .int .u8 101] 4 4 w.heap.size rfl Tryd.underlying25 Tryd.underlying5
theorem wpList_valueG {ops : Array Oper} {rest : List Oper} {o : Oper} {a : Act} {w : World} {Q : Exit → Act → World → Prop} {v : Value} (hw : Region.wanted o (yielded ops a.tmps) = true) (he : (execOp a.eval o).run Tryd.prog w = .ok (.value v) w)
    (hk : wpList Tryd.prog ops Q rest (a.put o.dst v) w) : wpList Tryd.prog ops Q (o :: rest) a w := by
  refine wpList_step fun K hK => ?_
  rw [if_pos hw]
  unfold Oper.wp
  rw [he]
  exact hK _ _ hk
/-- At the end: the clone has "more" behind it. -/
structure ZE (w0 : World) (g q : Nat) (F : Nat → Nat) (va : Value) (c B : Nat) (E EM : Nat → Nat) (vs : Value) (wr : World) : Prop where
  h : HS wr g q F
  a : Grow wr w0.heap.size va q F
  f : ∀ i, i < q → F i < 256
  o : Below w0.heap.size w0 wr
  v : GV wr
  gb : w0.heap.size ≤ g
  gv0 : 0 < w0.heap.size ∧ 1 < w0.heap.size
  na : ∀ k, va.ownBlock = some k → k ≠ g
  c : HS wr c (B + 4) EM
  s : Grow wr w0.heap.size vs B E
  se : ∀ i, i < B → E i < 256
  sB : B ≤ 3600
  n : ∀ k, vs.ownBlock = some k → k ≠ g ∧ va.ownBlock ≠ some k
theorem ZE.later {w0 : World} {g q c B : Nat} {F E EM : Nat → Nat} {va vs : Value} {wr w' : World} (h : ZE w0 g q F va c B E EM vs wr) (hb : Below wr.heap.size wr w') : ZE w0 g q F va c B E EM vs w' :=
  ⟨h.h.later hb, h.a.later hb, h.f, h.o.trans (hb.mono h.o.size), h.v.later hb, h.gb, h.gv0, h.na, h.c.later hb, h.s.later hb, h.se, h.sB, h.n⟩
theorem ZS.ended {w0 : World} {g q c B : Nat} {F E EM : Nat → Nat} {va vs : Value} {wr w' : World} (h : ZS w0 g q F q F va (some c) B E vs wr) (hO : Own c wr w') (hS : HS w' c (B + 4) EM) : ZE w0 g q F va c B E EM vs w' := by
  obtain ⟨c1, c2, c3, c4, c5, c6, c7, c8⟩ := h.c c rfl
  exact ⟨h.h.own hO (fun e => c3 e.symm), h.a.ownN hO c4, h.f, h.o.trans (hO.below c2 h.o.size), h.v.own hO c1.1.1 c1.1.2, h.gb, h.gv0, h.na, hS, c5.ownN hO (fun k hk => (c8 k hk).2.1), c6, c7, fun k hk => ⟨(c8 k hk).1, (c8 k hk).2.2⟩⟩
structure ZF (w0 : World) (g q : Nat) (F : Nat → Nat) (va : Value) (wr : World) : Prop where
  h : HS wr g q F
  a : Grow wr w0.heap.size va q F
  f : ∀ i, i < q → F i < 256
  o : Below w0.heap.size w0 wr
  v : GV wr
theorem ZF.later {w0 : World} {g q : Nat} {F : Nat → Nat} {va : Value} {wr w' : World} (h : ZF w0 g q F va wr) (hb : Below wr.heap.size wr w') : ZF w0 g q F va w' :=
  ⟨h.h.later hb, h.a.later hb, h.f, h.o.trans (hb.mono h.o.size), h.v.later hb⟩
theorem ZE.grew {w0 : World} {g q c B : Nat} {F E EM : Nat → Nat} {va vs : Value} {wr w' : World} (h : ZE w0 g q F va c B E EM vs wr) (hg : wr.grownBy w' vs.ownBlock) : ZF w0 g q F va w' := by
  have hO := own_of_grown hg
  have hn : ∀ x, x < wr.heap.size → (∀ k, vs.ownBlock = some k → k ≠ x) → x ≠ vs.ownBlock.getD wr.heap.size := fun x hx hk => by
    cases e : vs.ownBlock with
    | none => simp; omega
    | some b => simp; exact fun e2 => hk b e e2.symm
  have hge : w0.heap.size ≤ vs.ownBlock.getD wr.heap.size := by
    cases e : vs.ownBlock with
    | none => simp; exact h.o.size
    | some b => simp; exact (h.s.lt b e).1
  refine ⟨h.h.own hO (hn g h.h.lt fun k hk => (h.n k hk).1), h.a.ownN hO fun k hk => hn k (h.a.lt k hk).2 (fun k' hk' e => (h.n k' hk').2 (by rw [hk, e])), h.f, h.o.trans (hO.below hge h.o.size), ?_⟩
  exact h.v.own hO (by have := h.gv0; omega) (by have := h.gv0; omega)
set_option maxRecDepth 100000 in
set_option maxHeartbeats 8000000 in
theorem pieces_any (oa : Option Addr) (n cap : Nat) (L : Nat → Nat) (G : Nat → Nat → Nat) (at' : Int) (w : World) (hL : LBs w oa n L G) (hn : n ≤ maxLen) (hg : GV w) :
    Calls Tryd.prog 3 #[.slice oa n cap, .int .i64 at'] w fun e w' => e = .returned (.bool true) ∧ Below w.heap.size w w' := by
  unfold maxLen at hn
  have HG := Lib.hid hg
  have HLB := Lib.hid hL
  have HNL := Lib.hid hn
  have HSM : Hid (∀ g q F X w', (rowC 32 (shaN q F)).toArray = X → q < 100000 → HS w' g q F → GV w' → Calls Tryd.prog 13 #[.pointer (some ⟨g, 0, none⟩)] w' fun e w'' => e = .returned (.agg X) ∧ Below w'.heap.size w' w'') := Lib.hid fun g q F X w' hX hq h h' => by
    rw [← hX]; exact hsum_any g q F w' h (by omega) h'
  have HHM : Hid (∀ ob q cp F X w', (rowC 32 (shaN q F)).toArray = X → q < 100000 → q ≤ cp → Bytes w' ob q F → GV w' → Calls Tryd.prog 14 #[.slice ob q cp] w' fun e w'' => e = .returned (.agg X) ∧ Below w'.heap.size w' w'') := Lib.hid fun ob q cp F X w' hX hq hc hb h' => by
    rw [← hX]; exact hash_any ob q cp F w' hb hc (by omega) h'
  have HEQ : Hid (∀ q F X, (rowC 32 (shaN q F)).toArray = X → ∀ w, (Op.equalIn 10000 27 (.agg X) (.agg X)).run Tryd.prog w = .ok true w) := Lib.hid fun q F X hX w => by
    rw [← hX]; have := eq32 (shaN q F) (shaN q F) w; rw [eqS_refl] at this; exact this
  clear hg hL
  go_enter Tryd.func3, Tryd.ntmps3
  go_wp2_with fail
  refine (hnew_any _ HG.out).mono ?_
  rintro e w1 ⟨g, rfl, hN, hb1, hge⟩
  have H1 : Hid (ZS w g 0 (fun _ => 0) 0 (fun _ => 0) (.slice none 0 0) none 0 (fun _ => 0) (.slice none 0 0) w1) := Lib.hid ⟨hN _, Grow.nil _ _ _, fun i hi => absurd hi (Nat.not_lt_zero _), hb1, HG.out.later hb1, hge, HG.out.lt, fun k hk => (by cases hk), fun c hc => (by cases hc)⟩
  clear hN hb1 hge
  go_wp2_with fail
  go_loopw [6, 7, 8, 9] (fun va c vs v wr => ∃ (i q : Nat) (F : Nat → Nat) (cp : Option Nat) (B : Nat) (E : Nat → Nat), i ≤ 12 ∧ i ≤ n ∧ v = .int .i64 (i : Int) ∧ c = ptrOf cp ∧ q ≤ 300 * i ∧ (cp = none → q = 0) ∧ ZS w g q F q F va cp B E vs wr) (fun _ _ _ v _ => 12 - (intOf v).toNat)
  case atStart => exact ⟨0, 0, _, none, 0, _, by decide, Nat.zero_le _, rfl, rfl, Nat.zero_le _, fun _ => rfl, H1.out⟩
  case round =>
    clear H1
    obtain ⟨i, q, F, cp, B, E, hi12, hin, rfl, rfl, hq, hc0, hZ⟩ := hrel
    have HZ := Lib.hid hZ
    clear hZ
    have HC0 := Lib.hid hc0
    clear hc0
    by_cases hlt : i < n ∧ i < 12
    · obtain ⟨h1, h2⟩ := hlt
      have i0 : (0 : Int) ≤ (i : Int) := by omega
      have i1 : (i : Int) < (n : Int) := by omega
      have i2 : (i : Int) < 12 := by omega
      have in1 : i < n := h1
      obtain ⟨lb, lo, od, cpi, rfl, hcell, hle, hby, hno, hcm⟩ := HLB.out i h1
      have hlbl : lb < w.heap.size := by
        rcases Nat.lt_or_ge lb w.heap.size with h' | h'
        · exact h'
        · simp [World.cell?, Array.getElem?_eq_none h'] at hcell
      obtain ⟨l, hl⟩ : ∃ l, L i = l := ⟨_, rfl⟩
      obtain ⟨Gi, hGi⟩ : ∃ l, G i = l := ⟨_, rfl⟩
      rw [hl] at hcell hle hby hno
      rw [hGi] at hby
      have HCELL : Hid (∀ w', Below w.heap.size w w' → w'.cell? ⟨lb, lo + i, none⟩ = some (.slice od l cpi)) := Lib.hid fun w' h => cell_belowB h hlbl hcell
      have HBY : Hid (∀ w', Below w.heap.size w w' → Bytes w' od l Gi) := Lib.hid fun w' h k hk => by
        obtain ⟨b1, b, off, b2, b3⟩ := hby k hk
        have hbl : b < w.heap.size := by
          rcases Nat.lt_or_ge b w.heap.size with h' | h'
          · exact h'
          · simp [World.cell?, Array.getElem?_eq_none h'] at b3
        exact ⟨b1, b, off, b2, cell_belowB h hbl b3⟩
      have HLT : Hid (∀ a, od = some a → 0 < l → a.block < w.heap.size) := Lib.hid hby.lt
      have HG8 : Hid (∀ k, k < l → Gi k < 256) := Lib.hid fun k hk => (hby k hk).1
      have HNO := Lib.hid hno
      have HLE := Lib.hid hle
      have HQ : Hid (q ≤ 300 * i ∧ i < 12 ∧ i < n) := Lib.hid ⟨hq, h2, h1⟩
      have hc1 := HCELL.out _ HZ.out.o
      have hl0 : (l : Int) ≤ 9223372036854775807 := by unfold maxLen at hcm; omega
      clear hcell hle hby hno hcm hlbl hl hGi hq h1 h2 hi12 hin
      by_cases h300 : 300 < l
      · have h3 : (300 : Int) < (l : Int) := by omega
        clear h300
        go_wp2_with fail
        clear hc1
        go_roundw
        case rel => exact ⟨i + 1, q, F, cp, B, E, by have := HQ.out; omega, by have := HQ.out; omega, by go_num, rfl, by have := HQ.out; omega, HC0.out, HZ.out⟩
        case measure => simp [intOf] <;> omega
      · have h3 : ¬ (300 : Int) < (l : Int) := by omega
        have HL3 : Hid (l ≤ 300) := Lib.hid (by omega)
        clear h300
        rcases cp with _ | gc
        · rw [show ptrOf none = Value.pointer none from rfl]
          by_cases hat : (i : Int) = at'
          · subst hat
            go_wp2_with fail
            clear hc1
            refine (hclone_any g q F _ HZ.out.h HZ.out.v).mono ?_
            rintro e w2 ⟨gn, rfl, hcl, hbc, hgn⟩
            have HZ2 := Lib.hid (HZ.out.later hbc)
            obtain ⟨oaa, capa, hva, hBa, hqa, hna⟩ := HZ2.out.a.bytesC HZ2.out.f
            subst hva
            have HBA : Hid (Bytes (w2.alloc (.cells #[] 5)) oaa q F) := Lib.hid (hBa.later ((Below.refl _ _).alloc (Nat.le_refl _) _))
            have HNA := Lib.hid hna
            have HGE : Hid (Grow (w2.alloc (.cells #[] 5)) w.heap.size (.slice (some ⟨w2.heap.size, 0, none⟩) 0 0) 0 (fun _ => 0)) := Lib.hid (Grow.empty (Blk.new w2 #[] _) (Nat.le_trans HZ.out.o.size hbc.size) _)
            have HSZ : Hid (w.heap.size ≤ (w2.alloc (.cells #[] 5)).heap.size) := Lib.hid (by simp; have := HZ2.out.o.size; omega)
            have HCL : Hid (HS w2 gn q F ∧ Below wr.heap.size wr w2 ∧ wr.heap.size ≤ gn) := Lib.hid ⟨hcl, hbc, hgn⟩
            clear hBa hqa hna hcl hbc hgn HZ2
            go_wp2_with (first | (refine wpList_appO rfl (.tmp 36) (.tmp 37) rfl w.heap.size (.slice (some ⟨w2.heap.size, 0, none⟩) 0 0) 0 q capa oaa (fun _ => 0) F (w2.alloc (.cells #[] 5)) rfl HGE.out rfl HNA.out HBA.out (by have := HQ.out; omega) HSZ.out ?_; intro vs' w3 hG3 hg3 hob3; have H3 := Lib.hid (HZ.out.cloned HCL.out.2.1 HCL.out.1 HCL.out.2.2 hG3 hg3 (hob_or hob3) (by have := HQ.out; omega)); have hc1 := HCELL.out _ H3.out.o; clear hG3 hg3 hob3))
            clear HBA HNA HGE HSZ HCL HZ
            obtain ⟨FF, hFF⟩ : ∃ FF, catF q F Gi = FF := ⟨_, rfl⟩
            obtain ⟨X, hX⟩ : ∃ X, (rowC 32 (shaN (q + l) FF)).toArray = X := ⟨_, rfl⟩
            have HF8 : Hid (∀ k, k < q + l → FF k < 256) := Lib.hid (by rw [← hFF]; exact catF_lt H3.out.f HG8.out)
            have HX := Lib.hid hX
            have HFF := Lib.hid hFF
            clear hFF hX
            skip
            refine (write_any g q l cpi od F Gi _ H3.out.h (HBY.out _ H3.out.o) HLE.out (fun a ha hl => by have := HLT.out a ha hl; have := H3.out.gb; omega) (by have := HQ.out; have := HL3.out; omega) H3.out.v).mono ?_
            rintro e w5 ⟨rfl, hS, hO⟩
            have H5 := Lib.hid (H3.out.wrote hO (HFF.out ▸ hS))
            clear hS hO hc1 H3
            have hc1 := HCELL.out _ H5.out.o
            go_wp2_with (first | (refine wpList_appO rfl (.tmp 47) (.tmp 51) rfl w.heap.size (.slice oaa q capa) q l cpi od F Gi w5 rfl H5.out.a rfl HNO.out (HBY.out _ H5.out.o) (by have := HQ.out; have := HL3.out; omega) H5.out.o.size ?_; intro va' w6 hG6 hg6 hob6))
            have H6 := Lib.hid (H5.out.grew hg6 (HFF.out ▸ hG6) hob6 HF8.out)
            clear hG6 hg6 hob6 H5 hc1
            refine (HSM.out g (q + l) FF X _ HX.out (by have := HQ.out; have := HL3.out; omega) H6.out.h H6.out.v).mono ?_
            rintro e w7 ⟨rfl, hb7⟩
            have H7 := Lib.hid (H6.out.later hb7)
            clear hb7 H6
            obtain ⟨oa6, cap6, hva, hB6, hc6, _⟩ := H7.out.a.bytesC H7.out.f
            subst hva
            have HB6 := Lib.hid hB6
            have HC6 := Lib.hid hc6
            clear hB6 hc6
            go_wp2_with fail
            refine (HHM.out oa6 (q + l) cap6 FF X _ HX.out (by have := HQ.out; have := HL3.out; omega) HC6.out HB6.out H7.out.v).mono ?_
            rintro e w8 ⟨rfl, hb8⟩
            have H8 := Lib.hid (H7.out.later hb8)
            clear hb8 H7
            go_wp2_with (first | (refine wpList_value rfl (exec_neq32 (x := .tmp 54) (y := .tmp 56) rfl rfl rfl (HEQ.out _ _ _ HX.out)) ?_))
            go_roundw
            case rel => exact ⟨i + 1, q + l, FF, some gn, q, F, by have := HQ.out; omega, by have := HQ.out; omega, by go_num, rfl, by have := HQ.out; have := HL3.out; omega, (fun h => by cases h), H8.out⟩
            case measure => simp [intOf] <;> omega
          · have hab : ((i : Int) == at') = false := by simpa using hat
            clear hat
            go_wp2_with fail
            clear hc1
            refine (hclone_any g q F _ HZ.out.h HZ.out.v).mono ?_
            rintro e w2 ⟨gn, rfl, hcl, hbc, hgn⟩
            have HZ2 := Lib.hid (HZ.out.later hbc)
            obtain ⟨oaa, capa, hva, hBa, hqa, hna⟩ := HZ2.out.a.bytesC HZ2.out.f
            subst hva
            have HBA : Hid (Bytes (w2.alloc (.cells #[] 5)) oaa q F) := Lib.hid (hBa.later ((Below.refl _ _).alloc (Nat.le_refl _) _))
            have HNA := Lib.hid hna
            have HGE : Hid (Grow (w2.alloc (.cells #[] 5)) w.heap.size (.slice (some ⟨w2.heap.size, 0, none⟩) 0 0) 0 (fun _ => 0)) := Lib.hid (Grow.empty (Blk.new w2 #[] _) (Nat.le_trans HZ.out.o.size hbc.size) _)
            have HSZ : Hid (w.heap.size ≤ (w2.alloc (.cells #[] 5)).heap.size) := Lib.hid (by simp; have := HZ2.out.o.size; omega)
            have HCL : Hid (HS w2 gn q F ∧ Below wr.heap.size wr w2 ∧ wr.heap.size ≤ gn) := Lib.hid ⟨hcl, hbc, hgn⟩
            clear hBa hqa hna hcl hbc hgn HZ2
            go_wp2_with (first | (refine wpList_appO rfl (.tmp 36) (.tmp 37) rfl w.heap.size (.slice (some ⟨w2.heap.size, 0, none⟩) 0 0) 0 q capa oaa (fun _ => 0) F (w2.alloc (.cells #[] 5)) rfl HGE.out rfl HNA.out HBA.out (by have := HQ.out; omega) HSZ.out ?_; intro vs' w3 hG3 hg3 hob3; have H3 := Lib.hid (HZ.out.cloned HCL.out.2.1 HCL.out.1 HCL.out.2.2 hG3 hg3 (hob_or hob3) (by have := HQ.out; omega)); have hc1 := HCELL.out _ H3.out.o; clear hG3 hg3 hob3))
            clear HBA HNA HGE HSZ HCL HZ
            obtain ⟨FF, hFF⟩ : ∃ FF, catF q F Gi = FF := ⟨_, rfl⟩
            obtain ⟨X, hX⟩ : ∃ X, (rowC 32 (shaN (q + l) FF)).toArray = X := ⟨_, rfl⟩
            have HF8 : Hid (∀ k, k < q + l → FF k < 256) := Lib.hid (by rw [← hFF]; exact catF_lt H3.out.f HG8.out)
            have HX := Lib.hid hX
            have HFF := Lib.hid hFF
            clear hFF hX
            skip
            refine (write_any g q l cpi od F Gi _ H3.out.h (HBY.out _ H3.out.o) HLE.out (fun a ha hl => by have := HLT.out a ha hl; have := H3.out.gb; omega) (by have := HQ.out; have := HL3.out; omega) H3.out.v).mono ?_
            rintro e w5 ⟨rfl, hS, hO⟩
            have H5 := Lib.hid (H3.out.wrote hO (HFF.out ▸ hS))
            clear hS hO hc1 H3
            have hc1 := HCELL.out _ H5.out.o
            go_wp2_with (first | (refine wpList_appO rfl (.tmp 47) (.tmp 51) rfl w.heap.size (.slice oaa q capa) q l cpi od F Gi w5 rfl H5.out.a rfl HNO.out (HBY.out _ H5.out.o) (by have := HQ.out; have := HL3.out; omega) H5.out.o.size ?_; intro va' w6 hG6 hg6 hob6))
            have H6 := Lib.hid (H5.out.grew hg6 (HFF.out ▸ hG6) hob6 HF8.out)
            clear hG6 hg6 hob6 H5 hc1
            refine (HSM.out g (q + l) FF X _ HX.out (by have := HQ.out; have := HL3.out; omega) H6.out.h H6.out.v).mono ?_
            rintro e w7 ⟨rfl, hb7⟩
            have H7 := Lib.hid (H6.out.later hb7)
            clear hb7 H6
            obtain ⟨oa6, cap6, hva, hB6, hc6, _⟩ := H7.out.a.bytesC H7.out.f
            subst hva
            have HB6 := Lib.hid hB6
            have HC6 := Lib.hid hc6
            clear hB6 hc6
            go_wp2_with fail
            refine (HHM.out oa6 (q + l) cap6 FF X _ HX.out (by have := HQ.out; have := HL3.out; omega) HC6.out HB6.out H7.out.v).mono ?_
            rintro e w8 ⟨rfl, hb8⟩
            have H8 := Lib.hid (H7.out.later hb8)
            clear hb8 H7
            go_wp2_with (first | (refine wpList_value rfl (exec_neq32 (x := .tmp 54) (y := .tmp 56) rfl rfl rfl (HEQ.out _ _ _ HX.out)) ?_))
            go_roundw
            case rel => exact ⟨i + 1, q + l, FF, some gn, q, F, by have := HQ.out; omega, by have := HQ.out; omega, by go_num, rfl, by have := HQ.out; have := HL3.out; omega, (fun h => by cases h), H8.out⟩
            case measure => simp [intOf] <;> omega
        · rw [show ptrOf (some gc) = Value.pointer (some ⟨gc, 0, none⟩) from rfl]
          by_cases hat : (i : Int) = at'
          · subst hat
            go_wp2_with fail
            clear hc1
            refine (hclone_any g q F _ HZ.out.h HZ.out.v).mono ?_
            rintro e w2 ⟨gn, rfl, hcl, hbc, hgn⟩
            have HZ2 := Lib.hid (HZ.out.later hbc)
            obtain ⟨oaa, capa, hva, hBa, hqa, hna⟩ := HZ2.out.a.bytesC HZ2.out.f
            subst hva
            have HBA : Hid (Bytes (w2.alloc (.cells #[] 5)) oaa q F) := Lib.hid (hBa.later ((Below.refl _ _).alloc (Nat.le_refl _) _))
            have HNA := Lib.hid hna
            have HGE : Hid (Grow (w2.alloc (.cells #[] 5)) w.heap.size (.slice (some ⟨w2.heap.size, 0, none⟩) 0 0) 0 (fun _ => 0)) := Lib.hid (Grow.empty (Blk.new w2 #[] _) (Nat.le_trans HZ.out.o.size hbc.size) _)
            have HSZ : Hid (w.heap.size ≤ (w2.alloc (.cells #[] 5)).heap.size) := Lib.hid (by simp; have := HZ2.out.o.size; omega)
            have HCL : Hid (HS w2 gn q F ∧ Below wr.heap.size wr w2 ∧ wr.heap.size ≤ gn) := Lib.hid ⟨hcl, hbc, hgn⟩
            clear hBa hqa hna hcl hbc hgn HZ2
            go_wp2_with (first | (refine wpList_appO rfl (.tmp 36) (.tmp 37) rfl w.heap.size (.slice (some ⟨w2.heap.size, 0, none⟩) 0 0) 0 q capa oaa (fun _ => 0) F (w2.alloc (.cells #[] 5)) rfl HGE.out rfl HNA.out HBA.out (by have := HQ.out; omega) HSZ.out ?_; intro vs' w3 hG3 hg3 hob3; have H3 := Lib.hid (HZ.out.cloned HCL.out.2.1 HCL.out.1 HCL.out.2.2 hG3 hg3 (hob_or hob3) (by have := HQ.out; omega)); have hc1 := HCELL.out _ H3.out.o; clear hG3 hg3 hob3))
            clear HBA HNA HGE HSZ HCL HZ
            obtain ⟨FF, hFF⟩ : ∃ FF, catF q F Gi = FF := ⟨_, rfl⟩
            obtain ⟨X, hX⟩ : ∃ X, (rowC 32 (shaN (q + l) FF)).toArray = X := ⟨_, rfl⟩
            have HF8 : Hid (∀ k, k < q + l → FF k < 256) := Lib.hid (by rw [← hFF]; exact catF_lt H3.out.f HG8.out)
            have HX := Lib.hid hX
            have HFF := Lib.hid hFF
            clear hFF hX
            skip
            refine (write_any g q l cpi od F Gi _ H3.out.h (HBY.out _ H3.out.o) HLE.out (fun a ha hl => by have := HLT.out a ha hl; have := H3.out.gb; omega) (by have := HQ.out; have := HL3.out; omega) H3.out.v).mono ?_
            rintro e w5 ⟨rfl, hS, hO⟩
            have H5 := Lib.hid (H3.out.wrote hO (HFF.out ▸ hS))
            clear hS hO hc1 H3
            have hc1 := HCELL.out _ H5.out.o
            go_wp2_with (first | (refine wpList_appO rfl (.tmp 47) (.tmp 51) rfl w.heap.size (.slice oaa q capa) q l cpi od F Gi w5 rfl H5.out.a rfl HNO.out (HBY.out _ H5.out.o) (by have := HQ.out; have := HL3.out; omega) H5.out.o.size ?_; intro va' w6 hG6 hg6 hob6))
            have H6 := Lib.hid (H5.out.grew hg6 (HFF.out ▸ hG6) hob6 HF8.out)
            clear hG6 hg6 hob6 H5 hc1
            refine (HSM.out g (q + l) FF X _ HX.out (by have := HQ.out; have := HL3.out; omega) H6.out.h H6.out.v).mono ?_
            rintro e w7 ⟨rfl, hb7⟩
            have H7 := Lib.hid (H6.out.later hb7)
            clear hb7 H6
            obtain ⟨oa6, cap6, hva, hB6, hc6, _⟩ := H7.out.a.bytesC H7.out.f
            subst hva
            have HB6 := Lib.hid hB6
            have HC6 := Lib.hid hc6
            clear hB6 hc6
            go_wp2_with fail
            refine (HHM.out oa6 (q + l) cap6 FF X _ HX.out (by have := HQ.out; have := HL3.out; omega) HC6.out HB6.out H7.out.v).mono ?_
            rintro e w8 ⟨rfl, hb8⟩
            have H8 := Lib.hid (H7.out.later hb8)
            clear hb8 H7
            go_wp2_with (first | (refine wpList_value rfl (exec_neq32 (x := .tmp 54) (y := .tmp 56) rfl rfl rfl (HEQ.out _ _ _ HX.out)) ?_))
            go_roundw
            case rel => exact ⟨i + 1, q + l, FF, some gn, q, F, by have := HQ.out; omega, by have := HQ.out; omega, by go_num, rfl, by have := HQ.out; have := HL3.out; omega, (fun h => by cases h), H8.out⟩
            case measure => simp [intOf] <;> omega
          · have hab : ((i : Int) == at') = false := by simpa using hat
            clear hat
            have H3 := HZ
            clear HZ
            obtain ⟨FF, hFF⟩ : ∃ FF, catF q F Gi = FF := ⟨_, rfl⟩
            obtain ⟨X, hX⟩ : ∃ X, (rowC 32 (shaN (q + l) FF)).toArray = X := ⟨_, rfl⟩
            have HF8 : Hid (∀ k, k < q + l → FF k < 256) := Lib.hid (by rw [← hFF]; exact catF_lt H3.out.f HG8.out)
            have HX := Lib.hid hX
            have HFF := Lib.hid hFF
            clear hFF hX
            go_wp2_with fail
            refine (write_any g q l cpi od F Gi _ H3.out.h (HBY.out _ H3.out.o) HLE.out (fun a ha hl => by have := HLT.out a ha hl; have := H3.out.gb; omega) (by have := HQ.out; have := HL3.out; omega) H3.out.v).mono ?_
            rintro e w5 ⟨rfl, hS, hO⟩
            have H5 := Lib.hid (H3.out.wrote hO (HFF.out ▸ hS))
            clear hS hO hc1 H3
            have hc1 := HCELL.out _ H5.out.o
            go_wp2_with (first | (refine wpList_appO rfl (.tmp 47) (.tmp 51) rfl w.heap.size _ q l cpi od F Gi w5 rfl H5.out.a rfl HNO.out (HBY.out _ H5.out.o) (by have := HQ.out; have := HL3.out; omega) H5.out.o.size ?_; intro va' w6 hG6 hg6 hob6))
            have H6 := Lib.hid (H5.out.grew hg6 (HFF.out ▸ hG6) hob6 HF8.out)
            clear hG6 hg6 hob6 H5 hc1
            refine (HSM.out g (q + l) FF X _ HX.out (by have := HQ.out; have := HL3.out; omega) H6.out.h H6.out.v).mono ?_
            rintro e w7 ⟨rfl, hb7⟩
            have H7 := Lib.hid (H6.out.later hb7)
            clear hb7 H6
            obtain ⟨oa6, cap6, hva, hB6, hc6, _⟩ := H7.out.a.bytesC H7.out.f
            subst hva
            have HB6 := Lib.hid hB6
            have HC6 := Lib.hid hc6
            clear hB6 hc6
            go_wp2_with fail
            refine (HHM.out oa6 (q + l) cap6 FF X _ HX.out (by have := HQ.out; have := HL3.out; omega) HC6.out HB6.out H7.out.v).mono ?_
            rintro e w8 ⟨rfl, hb8⟩
            have H8 := Lib.hid (H7.out.later hb8)
            clear hb8 H7
            go_wp2_with (first | (refine wpList_value rfl (exec_neq32 (x := .tmp 54) (y := .tmp 56) rfl rfl rfl (HEQ.out _ _ _ HX.out)) ?_))
            go_roundw
            case rel => exact ⟨i + 1, q + l, FF, some gc, B, E, by have := HQ.out; omega, by have := HQ.out; omega, by go_num, rfl, by have := HQ.out; have := HL3.out; omega, (fun h => by cases h), H8.out⟩
            case measure => simp [intOf] <;> omega
    · have HFL : Hid (q ≤ 3600) := Lib.hid (by omega)
      have hcs : ¬ ((i : Int) < (n : Int)) ∨ ((i : Int) < (n : Int) ∧ ¬ ((i : Int) < 12)) := by omega
      clear hlt hq hi12 hin
      rcases cp with _ | gc
      · rw [show ptrOf none = Value.pointer none from rfl]
        obtain rfl := HC0.out rfl
        obtain ⟨oaa, capa, hva, _, _, _⟩ := HZ.out.a.bytesC HZ.out.f
        subst hva
        clear HC0
        rcases hcs with h1 | ⟨h1, h2⟩
        · have h0 : True := trivial
          go_wp2_with fail
          refine (sha_sure _ HZ.out.v).mono ?_
          rintro e w5 ⟨rfl, hb5⟩
          have HO := Lib.hid (HZ.out.o.trans (hb5.mono HZ.out.o.size))
          clear hb5 HZ
          go_wp2_with fail
          go_ret
          exact ⟨rfl, HO.out⟩
        · have h0 : True := trivial
          go_wp2_with fail
          refine (sha_sure _ HZ.out.v).mono ?_
          rintro e w5 ⟨rfl, hb5⟩
          have HO := Lib.hid (HZ.out.o.trans (hb5.mono HZ.out.o.size))
          clear hb5 HZ
          go_wp2_with fail
          go_ret
          exact ⟨rfl, HO.out⟩
      · rw [show ptrOf (some gc) = Value.pointer (some ⟨gc, 0, none⟩) from rfl]
        clear HC0
        obtain ⟨EM, hEM⟩ : ∃ D, catF B E moreF = D := ⟨_, rfl⟩
        obtain ⟨Y, hY⟩ : ∃ X, (rowC 32 (shaN (B + 4) EM)).toArray = X := ⟨_, rfl⟩
        obtain ⟨X, hX⟩ : ∃ X, (rowC 32 (shaN q F)).toArray = X := ⟨_, rfl⟩
        have HBB : Hid (B ≤ 3600 ∧ ∀ i, i < B → E i < 256) := Lib.hid (by obtain ⟨c1, c2, c3, c4, c5, c6, c7, c8⟩ := HZ.out.c gc rfl; exact ⟨c7, c6⟩)
        have HE8 : Hid (∀ k, k < B + 4 → EM k < 256) := Lib.hid (by rw [← hEM]; exact catF_lt HBB.out.2 moreF_lt)
        have HEM := Lib.hid hEM
        have HY := Lib.hid hY
        have HX := Lib.hid hX
        clear hEM hY hX
        have hcv := conv_more wr
        rcases hcs with h1 | ⟨h1, h2⟩
        · have h0 : True := trivial
          go_wp2_with fail
          clear hcv
          have hal : Below wr.heap.size wr (wr.alloc (.cells #[.int .u8 109, .int .u8 111, .int .u8 114, .int .u8 101] 5 (4, 5))) := (Below.refl _ _).alloc (Nat.le_refl _) _
          have HZ2 := Lib.hid (HZ.out.later hal)
          refine (write_any gc B 4 4 (some ⟨wr.heap.size, 0, none⟩) E moreF _ (HZ2.out.c gc rfl).1 more_bytes (Nat.le_refl _) (fun a ha _ => by cases ha; have := ((HZ.out.c gc rfl).1).lt; show wr.heap.size ≠ gc; omega) (by have := HBB.out; omega) HZ2.out.v).mono ?_
          rintro e w5 ⟨rfl, hS, hO⟩
          have H5 := Lib.hid (HZ2.out.ended hO (HEM.out ▸ hS))
          clear hS hO hal HZ HZ2
          go_wp2_with fail
          refine (HSM.out gc (B + 4) EM Y _ HY.out (by have := HBB.out; omega) H5.out.c H5.out.v).mono ?_
          rintro e w6 ⟨rfl, hb6⟩
          have H6 := Lib.hid (H5.out.later hb6)
          clear hb6 H5
          have hcv := conv_more w6
          have HAL : Hid (ZE w g q F _ gc B E EM _ (w6.alloc (.cells #[.int .u8 109, .int .u8 111, .int .u8 114, .int .u8 101] 5 (4, 5)))) := Lib.hid (H6.out.later ((Below.refl _ _).alloc (Nat.le_refl _) _))
          have HMB : Hid (Bytes (w6.alloc (.cells #[.int .u8 109, .int .u8 111, .int .u8 114, .int .u8 101] 5 (4, 5))) (some ⟨w6.heap.size, 0, none⟩) 4 moreF) := Lib.hid more_bytes
          go_wp2_with (first | (refine wpList_appO rfl (.tmp 72) (.tmp 74) rfl w.heap.size _ B 4 4 (some ⟨w6.heap.size, 0, none⟩) E moreF (w6.alloc (.cells #[.int .u8 109, .int .u8 111, .int .u8 114, .int .u8 101] 5 (4, 5))) rfl HAL.out.s rfl (fun h => by cases h) HMB.out (by have := HBB.out; omega) HAL.out.o.size ?_; intro vs' w7 hG7 hg7 hob7; have H7 := Lib.hid (HAL.out.grew hg7); clear hcv; have HV := Lib.hid (HEM.out ▸ hG7); clear hG7 hg7 hob7 HAL HMB; obtain ⟨ob, cb, hvb, hBb, hcb, _⟩ := HV.out.bytesC HE8.out; subst hvb; have HBb := Lib.hid hBb; have HCb := Lib.hid hcb; clear hBb hcb HV))
          refine (HHM.out ob (B + 4) cb EM Y _ HY.out (by have := HBB.out; omega) HCb.out HBb.out H7.out.v).mono ?_
          rintro e w8 ⟨rfl, hb8⟩
          have H8 := Lib.hid (H7.out.later hb8)
          clear hb8 H7 H6
          go_wp2_with (first | (refine wpList_value rfl (exec_eql32 (x := .tmp 71) (y := .tmp 76) rfl rfl rfl (HEQ.out _ _ _ HY.out)) ?_))
          refine (HSM.out g q F X _ HX.out (by have := HFL.out; omega) H8.out.h H8.out.v).mono ?_
          rintro e w9 ⟨rfl, hb9⟩
          have H9 := Lib.hid (H8.out.later hb9)
          clear hb9 H8
          obtain ⟨oa9, cap9, hva9, hB9, hc9, _⟩ := H9.out.a.bytesC H9.out.f
          subst hva9
          have HB9 := Lib.hid hB9
          have HC9 := Lib.hid hc9
          clear hB9 hc9
          go_wp2_with fail
          refine (HHM.out oa9 q cap9 F X _ HX.out (by have := HFL.out; omega) HC9.out HB9.out H9.out.v).mono ?_
          rintro e wA ⟨rfl, hbA⟩
          have HA := Lib.hid (H9.out.later hbA)
          clear hbA H9
          go_wp2_with (first | (refine wpList_valueG (by rfl) (exec_eql32 (x := .tmp 80) (y := .tmp 82) rfl rfl rfl (HEQ.out _ _ _ HX.out)) ?_))
          refine (sha_sure _ HA.out.v).mono ?_
          rintro e wB ⟨rfl, hbB⟩
          have HO := Lib.hid (HA.out.o.trans (hbB.mono HA.out.o.size))
          clear hbB HA
          go_wp2_with fail
          go_ret
          exact ⟨rfl, HO.out⟩
        · have h0 : True := trivial
          go_wp2_with fail
          clear hcv
          have hal : Below wr.heap.size wr (wr.alloc (.cells #[.int .u8 109, .int .u8 111, .int .u8 114, .int .u8 101] 5 (4, 5))) := (Below.refl _ _).alloc (Nat.le_refl _) _
          have HZ2 := Lib.hid (HZ.out.later hal)
          refine (write_any gc B 4 4 (some ⟨wr.heap.size, 0, none⟩) E moreF _ (HZ2.out.c gc rfl).1 more_bytes (Nat.le_refl _) (fun a ha _ => by cases ha; have := ((HZ.out.c gc rfl).1).lt; show wr.heap.size ≠ gc; omega) (by have := HBB.out; omega) HZ2.out.v).mono ?_
          rintro e w5 ⟨rfl, hS, hO⟩
          have H5 := Lib.hid (HZ2.out.ended hO (HEM.out ▸ hS))
          clear hS hO hal HZ HZ2
          go_wp2_with fail
          refine (HSM.out gc (B + 4) EM Y _ HY.out (by have := HBB.out; omega) H5.out.c H5.out.v).mono ?_
          rintro e w6 ⟨rfl, hb6⟩
          have H6 := Lib.hid (H5.out.later hb6)
          clear hb6 H5
          have hcv := conv_more w6
          have HAL : Hid (ZE w g q F _ gc B E EM _ (w6.alloc (.cells #[.int .u8 109, .int .u8 111, .int .u8 114, .int .u8 101] 5 (4, 5)))) := Lib.hid (H6.out.later ((Below.refl _ _).alloc (Nat.le_refl _) _))
          have HMB : Hid (Bytes (w6.alloc (.cells #[.int .u8 109, .int .u8 111, .int .u8 114, .int .u8 101] 5 (4, 5))) (some ⟨w6.heap.size, 0, none⟩) 4 moreF) := Lib.hid more_bytes
          go_wp2_with (first | (refine wpList_appO rfl (.tmp 72) (.tmp 74) rfl w.heap.size _ B 4 4 (some ⟨w6.heap.size, 0, none⟩) E moreF (w6.alloc (.cells #[.int .u8 109, .int .u8 111, .int .u8 114, .int .u8 101] 5 (4, 5))) rfl HAL.out.s rfl (fun h => by cases h) HMB.out (by have := HBB.out; omega) HAL.out.o.size ?_; intro vs' w7 hG7 hg7 hob7; have H7 := Lib.hid (HAL.out.grew hg7); clear hcv; have HV := Lib.hid (HEM.out ▸ hG7); clear hG7 hg7 hob7 HAL HMB; obtain ⟨ob, cb, hvb, hBb, hcb, _⟩ := HV.out.bytesC HE8.out; subst hvb; have HBb := Lib.hid hBb; have HCb := Lib.hid hcb; clear hBb hcb HV))
          refine (HHM.out ob (B + 4) cb EM Y _ HY.out (by have := HBB.out; omega) HCb.out HBb.out H7.out.v).mono ?_
          rintro e w8 ⟨rfl, hb8⟩
          have H8 := Lib.hid (H7.out.later hb8)
          clear hb8 H7 H6
          go_wp2_with (first | (refine wpList_value rfl (exec_eql32 (x := .tmp 71) (y := .tmp 76) rfl rfl rfl (HEQ.out _ _ _ HY.out)) ?_))
          refine (HSM.out g q F X _ HX.out (by have := HFL.out; omega) H8.out.h H8.out.v).mono ?_
          rintro e w9 ⟨rfl, hb9⟩
          have H9 := Lib.hid (H8.out.later hb9)
          clear hb9 H8
          obtain ⟨oa9, cap9, hva9, hB9, hc9, _⟩ := H9.out.a.bytesC H9.out.f
          subst hva9
          have HB9 := Lib.hid hB9
          have HC9 := Lib.hid hc9
          clear hB9 hc9
          go_wp2_with fail
          refine (HHM.out oa9 q cap9 F X _ HX.out (by have := HFL.out; omega) HC9.out HB9.out H9.out.v).mono ?_
          rintro e wA ⟨rfl, hbA⟩
          have HA := Lib.hid (H9.out.later hbA)
          clear hbA H9
          go_wp2_with (first | (refine wpList_valueG (by rfl) (exec_eql32 (x := .tmp 80) (y := .tmp 82) rfl rfl rfl (HEQ.out _ _ _ HX.out)) ?_))
          refine (sha_sure _ HA.out.v).mono ?_
          rintro e wB ⟨rfl, hbB⟩
          have HO := Lib.hid (HA.out.o.trans (hbB.mono HA.out.o.size))
          clear hbB HA
          go_wp2_with fail
          go_ret
          exact ⟨rfl, HO.out⟩
end Go.Proofs.YtbblibddikdakaaDoor
