/- The draws by which a secret has some parts: the law's own. -/
import Derived.Test.YtmhofofidmbgfaaDoorSz1
import Derived.Test.YtmhofofidmbgfaaDoorSs1
namespace Go.Proofs.YtmhofofidmbgfaaDoor
set_option linter.unusedVariables false
set_option linter.unusedSimpArgs false
open Go.RowKit

theorem Grow.ltS {w : World} {base n : Nat} {v : Value} {f : Nat → Nat} (h : Grow w base v n f) : ∀ q, v.ownBlock = some q → base ≤ q ∧ q < w.heap.size := World.ownsRow.lt h
theorem Grow.one {w w' : World} {base n : Nat} {v : Value} {f : Nat → Nat} (h : Grow w base v n f) (hk : ∀ q, v.ownBlock = some q → w'.heap[q]? = w.heap[q]?) : Grow w' base v n f := by
  refine ⟨h.1, ?_⟩
  rcases h.2 with h2 | ⟨g, cap, cur, hv, hb, hh, r⟩
  · exact .inl h2
  · exact .inr ⟨g, cap, cur, hv, hb, by rw [hk g (by rw [hv]; rfl)]; exact hh, r⟩
theorem Grow.grown {w w' : World} {base n : Nat} {v : Value} {f : Nat → Nat} {row : Option Nat} (h : Grow w base v n f) (hg : w.grownBy w' row) (hne : ∀ q, v.ownBlock = some q → row ≠ some q) : Grow w' base v n f :=
  h.one fun q hq => hg.block q (h.ltS q hq).2 (Ne.symm (hne q hq))
theorem Grow.ownN {w w' : World} {base n b : Nat} {v : Value} {f : Nat → Nat} (h : Grow w base v n f) (hO : Own b w w') (hne : v.ownBlock ≠ some b) : Grow w' base v n f :=
  h.one fun q hq => hO.block q (h.ltS q hq).2 (fun e => hne (by rw [hq, e]))
theorem BRow.grown {w w' : World} {g n : Nat} {f : Nat → Nat} {row : Option Nat} (h : BRow w g n f) (hg : w.grownBy w' row) (hne : row ≠ some g) : BRow w' g n f := by
  have hl := h.lt
  obtain ⟨D, h1, r⟩ := h
  exact ⟨D, by have := hg.block g hl (Ne.symm hne); unfold Blk at h1 ⊢; rw [this]; exact h1, r⟩
theorem BRow.congr {w : World} {g n : Nat} {f f' : Nat → Nat} (h : BRow w g n f) (he : ∀ i, i < n → f i = f' i) : BRow w g n f' := by
  obtain ⟨D, h1, h2, h3⟩ := h
  exact ⟨D, h1, h2, by rw [← rowC_congr he]; exact h3⟩
theorem BRow.alloc {w : World} {g n : Nat} {f : Nat → Nat} (h : BRow w g n f) (o : Obj) : BRow (w.alloc o) g n f := h.later ((Below.refl _ _).alloc (Nat.le_refl _) _)
theorem Grow.alloc {w : World} {base n : Nat} {v : Value} {f : Nat → Nat} (h : Grow w base v n f) (o : Obj) : Grow (w.alloc o) base v n f := h.later ((Below.refl _ _).alloc (Nat.le_refl _) _)
/-- Two rows of the call's own, apart. -/
structure TG (w : World) (base : Nat) (va vb : Value) (i j : Nat) (f g : Nat → Nat) : Prop where
  a : Grow w base va i f
  b : Grow w base vb j g
  ne : ∀ q, va.ownBlock = some q → vb.ownBlock ≠ some q
theorem TG.later {w w' : World} {base i j : Nat} {va vb : Value} {f g : Nat → Nat} (h : TG w base va vb i j f g) (hb : Below w.heap.size w w') : TG w' base va vb i j f g := ⟨h.a.later hb, h.b.later hb, h.ne⟩
theorem TG.own {w w' : World} {base i j tb : Nat} {va vb : Value} {f g : Nat → Nat} (h : TG w base va vb i j f g) (hO : Own tb w w') (hb : tb < base) : TG w' base va vb i j f g := ⟨h.a.own hO hb, h.b.own hO hb, h.ne⟩
theorem TG.growA {w w' : World} {base i j i' : Nat} {va vb va' : Value} {f g f' : Nat → Nat} (h : TG w base va vb i j f g) (hg : w.grownBy w' va.ownBlock) (hG : Grow w' base va' i' f') (hob : va'.ownBlock = va.ownBlock ∨ va'.ownBlock = some w.heap.size) : TG w' base va' vb i' j f' g := by
  refine ⟨hG, h.b.grown hg (fun q hq e => h.ne q e hq), fun q hq => ?_⟩
  rcases hob with e | e
  · exact h.ne q (by rw [← e]; exact hq)
  · intro e2
    have := (h.b.ltS q e2).2
    rw [e] at hq; cases hq; omega
theorem TG.growB {w w' : World} {base i j j' : Nat} {va vb vb' : Value} {f g g' : Nat → Nat} (h : TG w base va vb i j f g) (hg : w.grownBy w' vb.ownBlock) (hG : Grow w' base vb' j' g') (hob : vb'.ownBlock = vb.ownBlock ∨ vb'.ownBlock = some w.heap.size) : TG w' base va vb' i j' f g' := by
  refine ⟨h.a.grown hg (fun q hq => h.ne q hq), hG, fun q hq => ?_⟩
  rcases hob with e | e
  · rw [e]; exact h.ne q hq
  · rw [e]; intro e2
    have := (h.a.ltS q hq).2
    cases e2; omega
/-- What grew within a base. -/
theorem grown_in {w w' : World} {base n : Nat} {v : Value} {f : Nat → Nat} (h : Grow w base v n f) (hg : w.grownBy w' v.ownBlock) (hb : base ≤ w.heap.size) : Below base w w' := (Below.refl base w).grown hg hb (Grow.block h)
theorem TG.rows {w : World} {base k : Nat} {va vb : Value} {f g : Nat → Nat} (h : TG w base va vb k k f g) (hk : 0 < k) : ∃ gx cx gy cy, va = .slice (some ⟨gx, 0, none⟩) k cx ∧ vb = .slice (some ⟨gy, 0, none⟩) k cy ∧ base ≤ gx ∧ base ≤ gy ∧ gx ≠ gy ∧ BRow w gx k f ∧ BRow w gy k g := by
  obtain ⟨gx, cx, rfl, h1, -, -, h2⟩ := BRow.of_grow h.a hk
  obtain ⟨gy, cy, rfl, h3, -, -, h4⟩ := BRow.of_grow h.b hk
  exact ⟨gx, cx, gy, cy, rfl, rfl, h1, h3, fun e => h.ne gx rfl (by rw [e]; rfl), h2, h4⟩
def mixY (X Y : Nat → Nat) (k q a : Nat) : Nat → Nat := fun j => if j < a then yS X Y k (q + 1) j else yS X Y k q j
theorem mixY_step (X Y : Nat → Nat) (k q a : Nat) : upd (mixY X Y k q a) a (divN (yS X Y k q a ^^^ zeroF X (yS X Y k q) k) (X a)) = mixY X Y k q (a + 1) := by
  funext j
  unfold upd mixY
  by_cases e : j = a
  · subst e; rw [if_pos rfl, if_pos (by omega)]; rfl
  · rw [if_neg e]
    by_cases h : j < a
    · rw [if_pos h, if_pos (by omega)]
    · rw [if_neg h, if_neg (by omega)]
theorem mixY_at (X Y : Nat → Nat) (k q a : Nat) : mixY X Y k q a a = yS X Y k q a := if_neg (Nat.lt_irrefl a)
theorem grown_ne {w : World} {o : Obj} {v v' : Value} {gx gy : Nat} (hob : v'.ownBlock = v.ownBlock ∨ v'.ownBlock = some (w.alloc o).heap.size) (h : v.ownBlock ≠ some gx ∧ v.ownBlock ≠ some gy) (hx : gx < w.heap.size) (hy : gy < w.heap.size) : v'.ownBlock ≠ some gx ∧ v'.ownBlock ≠ some gy := by
  rcases hob with e | e
  · rw [e]; exact h
  · rw [e]; simp; omega
/-- All draws, byte by byte. -/
def drF (S : Nat → Sh) (z : Nat → Nat) (k : Nat) : Nat → Nat := fun t => drawF (fun a => (S a).ix) (fun a => (S a).f (t / k)) (z (t / k)) k (t % k)
theorem drF_at {S : Nat → Sh} {z : Nat → Nat} {k i q : Nat} (hq : q < k) : drF S z k (i * k + q) = zeroF (fun a => (S a).ix) (yS (fun a => (S a).ix) (fun a => divN ((S a).f i ^^^ z i) (S a).ix) k q) k := by
  unfold drF
  rw [show (i * k + q) / k = i by rw [Nat.mul_comm, Nat.mul_add_div (by omega), Nat.div_eq_of_lt hq, Nat.add_zero], show (i * k + q) % k = q by rw [Nat.mul_comm, Nat.mul_add_mod, Nat.mod_eq_of_lt hq]]
  rfl

set_option maxRecDepth 100000 in
set_option maxHeartbeats 8000000 in
theorem drawn_any (tb L cs k cp k1 N gen : Nat) (os op : Option Addr) (z : Nat → Nat) (S : Nat → Sh) (w : World) (h : TabIn w tb) (hz : Bytes w os L z) (hza : Apart tb os L) (hS : Shs tb w op k S) (hlen : ∀ a, a < k → (S a).len = L) (hix : ∀ a, a < k → (S a).ix < 256 ∧ (S a).ix ≠ 0) (hne : ∀ i j, i < j → j < k → (S i).ix ≠ (S j).ix) (hk1 : k1 = k + 1) (hk : 1 ≤ k) (hk6 : k ≤ 300) (hL1 : 1 ≤ L) (hL : L ≤ 300) :
    Calls Tryd.prog 25 #[.pointer (some ⟨tb, 0, none⟩), .slice os L cs, .slice op k cp, .agg #[.int .i64 (k1 : Int), .int .i64 (N : Int), .int .u32 (gen : Int)]] w fun e w' => ∃ g cap, e = .returned (.tuple #[.slice (some ⟨g, 0, none⟩) (L * k) cap, .bool true]) ∧ w.heap.size ≤ g ∧ L * k ≤ cap ∧ Bytes w' (some ⟨g, 0, none⟩) (L * k) (drF S z k) ∧ TabIn w' tb ∧ Own tb w w' := by
  obtain ⟨w0, hw0⟩ : ∃ x, w.alloc (.cells #[.int .i64 (k1 : Int), .int .i64 (N : Int), .int .u32 (gen : Int)] 28) = x := ⟨_, rfl⟩
  obtain ⟨base, hba⟩ : ∃ x, w0.heap.size = x := ⟨_, rfl⟩
  have hb0 : Below w.heap.size w w0 := by rw [← hw0]; exact (Below.refl _ _).alloc (Nat.le_refl _) _
  have htl := h.lt
  have HCK : Hid (∀ w7, Own tb w0 w7 → w7.cell? ⟨w.heap.size, 0, none⟩ = some (.int .i64 (k1 : Int))) := Lib.hid fun w7 h7 => h7.cell (by rw [← hw0]; exact World.cell?_alloc_mark _ _ _ _ _) (show w.heap.size ≠ tb by omega)
  have HZ : Hid (∀ w7, Own tb w0 w7 → Bytes w7 os L z) := Lib.hid fun w7 h7 => (hz.later hb0).own h7 hza
  have HS : Hid (∀ w7, Own tb w0 w7 → Shs tb w7 op k S) := Lib.hid fun w7 h7 => (hS.later hb0).own h7
  have HZT : Hid (∀ b o, os = some ⟨b, o, none⟩ → b ≠ tb) := Lib.hid fun b o e => hza (by omega) _ e
  have HLEN := Lib.hid hlen
  have HIX := Lib.hid hix
  have HNEQ := Lib.hid hne
  have HT00 : Hid (TabIn w0 tb) := Lib.hid (h.below hb0)
  have HBB : Hid (w.heap.size < base ∧ tb < base) := Lib.hid (by have : w0.heap.size = w.heap.size + 1 := by rw [← hw0]; simp
                                                                 omega)
  have HB0 := Lib.hid hb0
  have HB0S : Hid (w0.heap.size = base) := Lib.hid hba
  have HKB : Hid (k ≤ 300) := Lib.hid hk6
  have hkk : (k1 : Int) - 1 = (k : Int) := by omega
  have hks : (k1 : Int) ≤ 400 ∧ (0 : Int) ≤ (k1 : Int) ∧ (1 : Int) ≤ (k1 : Int) := by omega
  have hwk : IntKind.i64.wrap (k : Int) = (k : Int) := IntWalk.i64_in _ (by omega)
  have HL9 : Hid (L * k ≤ 90000 ∧ 0 < L * k) := Lib.hid ⟨Nat.mul_le_mul hL hk6, Nat.mul_pos hL1 hk⟩
  have HX8 : Hid (∀ a, a < k → (S a).ix < 256) := Lib.hid fun a ha => (hix a ha).1
  obtain ⟨X, hX⟩ : ∃ X : Nat → Nat, (fun a => (S a).ix) = X := ⟨_, rfl⟩
  have HXD : Hid ((fun a => (S a).ix) = X) := Lib.hid hX
  have HXE : Hid (∀ a, (S a).ix = X a) := Lib.hid fun a => by rw [← hX]
  clear h hz hza hS hlen hix hne hb0 hba hk6 hX htl hk1
  go_enter Tryd.func25, Tryd.ntmps25
  go_wp2_with fail
  clear hw0
  go_loopw [10, 11] (fun v x wr => ∃ i : Nat, i ≤ L ∧ x = .int .i64 (i : Int) ∧ Grow wr base v (i * k) (drF S z k) ∧ TabIn wr tb ∧ Own tb w0 wr) (fun _ x _ => L - (intOf x).toNat)
  case atStart => exact ⟨0, Nat.zero_le _, rfl, by rw [Nat.zero_mul]; exact Grow.nil _ _ _, HT00.out, Own.refl _ _⟩
  case round =>
    obtain ⟨i, hi, rfl, hG, hT, hO⟩ := hrel
    generalize wr = wo at *
    clear HT00
    have HG := Lib.hid hG
    have HTR := Lib.hid hT
    have HOR := Lib.hid hO
    clear hG hT hO
    by_cases hlt : i < L
    · have hi0 : (0 : Int) ≤ (i : Int) ∧ (i : Int) < (L : Int) := by omega
      obtain ⟨m, hm⟩ : ∃ m, i * k = m := ⟨_, rfl⟩
      have HMK : Hid (i * k = m) := Lib.hid hm
      have HMB : Hid (m + k ≤ 90000) := Lib.hid (by have := HL9.out.1; have h2 : (i + 1) * k ≤ L * k := Nat.mul_le_mul_right _ hlt; rw [Nat.succ_mul, hm] at h2; omega)
      obtain ⟨Y, hY⟩ : ∃ Y : Nat → Nat, (fun a => divN ((S a).f i ^^^ z i) (S a).ix) = Y := ⟨_, rfl⟩
      have HYD : Hid (∀ q, q < k → drF S z k (m + q) = zeroF X (yS X Y k q) k) := Lib.hid fun q hq => by rw [← hm, drF_at hq, HXD.out, hY]
      have HYE : Hid (∀ a, divN ((S a).f i ^^^ z i) (S a).ix = Y a) := Lib.hid fun a => by rw [← hY]
      have HY8 : Hid (∀ a, a < k → Y a < 256) := Lib.hid fun a _ => by rw [← hY]; exact divN_lt _ _
      have HG1 : Hid (Grow wo base u10 m (drF S z k)) := Lib.hid (by rw [← hm]; exact HG.out)
      obtain ⟨B, hB⟩ : ∃ B, wo.heap.size = B := ⟨_, rfl⟩
      have HBW := Lib.hid hB
      have HTB : Hid (B ≤ wo.heap.size ∧ tb < B) := Lib.hid ⟨Nat.le_of_eq hB.symm, by have := HTR.out.lt; omega⟩
      have HBas : Hid (base ≤ B) := Lib.hid (by have := HOR.out.size; have := HB0S.out; omega)
      clear hm hY hB HG
      go_wp2_with fail
      go_loopw [12, 13, 14] (fun xs ys x wr => ∃ a : Nat, a ≤ k ∧ x = .int .i64 (a : Int) ∧ TG wr B xs ys a a X Y ∧ TabIn wr tb ∧ Own tb wo wr ∧ wo.heap.size ≤ wr.heap.size) (fun _ _ x _ => k - (intOf x).toNat)
      case atStart => exact ⟨0, Nat.zero_le _, rfl, ⟨Grow.nil _ _ _, Grow.nil _ _ _, fun q hq => by cases hq⟩, HTR.out, Own.refl _ _, Nat.le_refl _⟩
      case round =>
        obtain ⟨a, ha, rfl, hTG, hT, hO, hs⟩ := hrel
        have HTG := Lib.hid hTG
        have HOW0 := Lib.hid hs
        have HTR2 := Lib.hid hT
        have HOR2 := Lib.hid hO
        clear hTG hT hO hs
        by_cases hlta : a < k
        · have ha0 : (0 : Int) ≤ (a : Int) ∧ (a : Int) < (k : Int) := by omega
          obtain ⟨b, off, od, cap, rfl, hbt, hfB, -, -, -, hdA, hc0, -, hc2⟩ := (HS.out w0 (Own.refl _ _)).get a hlta
          obtain ⟨hzi, zb, zo, rfl, hzc⟩ := (HZ.out w0 (Own.refl _ _)) i hlt
          rw [HLEN.out a hlta] at hfB hdA hc2
          obtain ⟨hfi, db, dof, rfl, hfc⟩ := hfB i hlt
          have hdt : db ≠ tb := hdA hL1 _ rfl
          obtain ⟨hxa, hxa0⟩ := HIX.out a hlta
          have hzt : zb ≠ tb := HZT.out _ _ rfl
          have HYA0 := HYE.out a
          obtain ⟨fi, hfe⟩ : ∃ x, (S a).f i = x := ⟨_, rfl⟩
          obtain ⟨zi, hze⟩ : ∃ x, z i = x := ⟨_, rfl⟩
          obtain ⟨xa, hxe⟩ : ∃ x, (S a).ix = x := ⟨_, rfl⟩
          rw [hfe] at hfi hfc HYA0
          rw [hze] at hzi hzc HYA0
          rw [hxe] at hxa hxa0 hc0 HYA0
          obtain ⟨fz, hfz⟩ : ∃ x, fi ^^^ zi = x := ⟨_, rfl⟩
          rw [hfz] at HYA0
          obtain ⟨dv, hdv⟩ : ∃ x, divN fz xa = x := ⟨_, rfl⟩
          rw [hdv] at HYA0
          have HYA := Lib.hid HYA0.symm
          have HXX : Hid (X a = xa) := Lib.hid (by rw [← HXE.out]; exact hxe)
          have HFZ := Lib.hid hfz
          have HDV := Lib.hid hdv
          have HFZ8 : Hid (fz < 256) := Lib.hid (by rw [← hfz]; exact xor_lt hfi hzi)
          have HDV8 : Hid (dv < 256) := Lib.hid (by rw [← hdv]; exact divN_lt _ _)
          have HXA := Lib.hid hxa0
          have HL5 : Hid (∀ w7, Own tb w0 w7 → w7.cell? ⟨b, off + a * 3 + 2, none⟩ = some (.slice (some ⟨db, dof, none⟩) L cap)) := Lib.hid fun w7 h7 => h7.cell hc2 hbt
          have HL8 : Hid (∀ w7, Own tb w0 w7 → w7.cell? ⟨db, dof + i, none⟩ = some (.int .u8 (fi : Nat))) := Lib.hid fun w7 h7 => h7.cell hfc hdt
          have HL12 : Hid (∀ w7, Own tb w0 w7 → w7.cell? ⟨zb, zo + i, none⟩ = some (.int .u8 (zi : Nat))) := Lib.hid fun w7 h7 => h7.cell hzc hzt
          have HL18 : Hid (∀ w7, Own tb w0 w7 → w7.cell? ⟨b, off + a * 3, none⟩ = some (.int .u8 (xa : Nat))) := Lib.hid fun w7 h7 => h7.cell hc0 hbt
          have hP_0 : Own tb w0 wr.drew := (HOR.out.trans HOR2.out).drew
          have HO0 : Hid (Own tb wo wr.drew) := Lib.hid HOR2.out.drew
          have HT0 : Hid (TabIn wr.drew tb) := Lib.hid HTR2.out
          have HTG0 : Hid (TG wr.drew B u12 u13 a a X Y) := Lib.hid (HTG.out.later (Below.refl _ _).drew)
          clear HYA0 hfz hdv hfe hze hxe hc2 hc0 hzc hfc hfB hdA hxa0 hbt hdt hzt HTG HTR2 HOR2
          go_wp2_with fail
          refine wp_region_held_drew (S := (Own tb w0)) (by kernel_rfl) ?_ (fun hHeld => ?_)
          · (try dsimp only)
            first | assumption | exact hP_0 | exact hP_1
          generalize wr.drew = W0 at *
          refine wpAnyH_take (i := 0) (oi := { dst := some 36, op := Go.Op.move (Go.Operand.tmp 0), type := 34, pos := "law.go:184", after := #[], guard := none }) (v := ?_) rfl (by kernel_rfl) (by kernel_rfl) (by kernel_rfl) (fun _ _ _ h => h) (Or.inl ⟨by rfl, ?_⟩) (by assumption) ?_
          rotate_left
          · intro wS hSw
            (try dsimp only at hSw)
            go_simp
            (try with_reducible rfl)
          (try simp only [Act.put, List.setIfInBounds_toArray, List.set_cons_zero, List.set_cons_succ])
          refine wpAnyH_take (i := 1) (oi := { dst := some 37, op := Go.Op.move (Go.Operand.tmp 2), type := 29, pos := "law.go:184", after := #[], guard := none }) (v := ?_) rfl (by kernel_rfl) (by kernel_rfl) (by kernel_rfl) (fun _ _ _ h => h) (Or.inl ⟨by rfl, ?_⟩) (by assumption) ?_
          rotate_left
          · intro wS hSw
            (try dsimp only at hSw)
            go_simp
            (try with_reducible rfl)
          (try simp only [Act.put, List.setIfInBounds_toArray, List.set_cons_zero, List.set_cons_succ])
          refine wpAnyH_take (i := 2) (oi := { dst := some 38, op := Go.Op.move (Go.Operand.tmp 14), type := 3, pos := "law.go:184", after := #[], guard := none }) (v := ?_) rfl (by kernel_rfl) (by kernel_rfl) (by kernel_rfl) (fun _ _ _ h => h) (Or.inl ⟨by rfl, ?_⟩) (by assumption) ?_
          rotate_left
          · intro wS hSw
            (try dsimp only at hSw)
            go_simp
            (try with_reducible rfl)
          (try simp only [Act.put, List.setIfInBounds_toArray, List.set_cons_zero, List.set_cons_succ])
          refine wpAnyH_take (i := 3) (oi := { dst := some 39, op := Go.Op.indexAddr 29 (Go.Operand.tmp 37) (Go.Operand.tmp 38), type := 0, pos := "law.go:184", after := #[{ on := 1, ground := Go.Ground.data }, { on := 2, ground := Go.Ground.data }], guard := none }) (v := ?_) rfl (by kernel_rfl) (by kernel_rfl) (by kernel_rfl) (fun _ _ _ h => h) (Or.inl ⟨by rfl, ?_⟩) (by assumption) ?_
          rotate_left
          · intro wS hSw
            (try dsimp only at hSw)
            go_simp
            (try with_reducible rfl)
          (try simp only [Act.put, List.setIfInBounds_toArray, List.set_cons_zero, List.set_cons_succ])
          refine wpAnyH_take (i := 4) (oi := { dst := some 40, op := Go.Op.fieldAddr 52 (Go.Operand.tmp 39) 2, type := 0, pos := "law.go:184", after := #[{ on := 3, ground := Go.Ground.data }], guard := none }) (v := ?_) rfl (by kernel_rfl) (by kernel_rfl) (by kernel_rfl) (fun _ _ _ h => h) (Or.inl ⟨by rfl, ?_⟩) (by assumption) ?_
          rotate_left
          · intro wS hSw
            (try dsimp only at hSw)
            go_simp
            (try with_reducible rfl)
          (try simp only [Act.put, List.setIfInBounds_toArray, List.set_cons_zero, List.set_cons_succ])
          refine wpAnyH_take (i := 5) (oi := { dst := some 41, op := Go.Op.load 22 (Go.Operand.tmp 40), type := 22, pos := "law.go:184", after := #[{ on := 4, ground := Go.Ground.data }], guard := none }) (v := ?_) rfl (by kernel_rfl) (by kernel_rfl) (by kernel_rfl) (fun _ _ _ h => h) (Or.inl ⟨by rfl, ?_⟩) (by assumption) ?_
          rotate_left
          · intro wS hSw
            ((have c9 := HL5.out _ hSw); go_simp; (try with_reducible rfl))
          (try simp only [Act.put, List.setIfInBounds_toArray, List.set_cons_zero, List.set_cons_succ])
          refine wpAnyH_take (i := 6) (oi := { dst := some 42, op := Go.Op.move (Go.Operand.tmp 11), type := 3, pos := "law.go:184", after := #[], guard := none }) (v := ?_) rfl (by kernel_rfl) (by kernel_rfl) (by kernel_rfl) (fun _ _ _ h => h) (Or.inl ⟨by rfl, ?_⟩) (by assumption) ?_
          rotate_left
          · intro wS hSw
            (try dsimp only at hSw)
            go_simp
            (try with_reducible rfl)
          (try simp only [Act.put, List.setIfInBounds_toArray, List.set_cons_zero, List.set_cons_succ])
          refine wpAnyH_take (i := 7) (oi := { dst := some 43, op := Go.Op.indexAddr 22 (Go.Operand.tmp 41) (Go.Operand.tmp 42), type := 0, pos := "law.go:184", after := #[{ on := 5, ground := Go.Ground.data }, { on := 6, ground := Go.Ground.data }], guard := none }) (v := ?_) rfl (by kernel_rfl) (by kernel_rfl) (by kernel_rfl) (fun _ _ _ h => h) (Or.inl ⟨by rfl, ?_⟩) (by assumption) ?_
          rotate_left
          · intro wS hSw
            (try dsimp only at hSw)
            go_simp
            (try with_reducible rfl)
          (try simp only [Act.put, List.setIfInBounds_toArray, List.set_cons_zero, List.set_cons_succ])
          refine wpAnyH_take (i := 8) (oi := { dst := some 44, op := Go.Op.load 5 (Go.Operand.tmp 43), type := 5, pos := "law.go:184", after := #[{ on := 7, ground := Go.Ground.data }], guard := none }) (v := ?_) rfl (by kernel_rfl) (by kernel_rfl) (by kernel_rfl) (fun _ _ _ h => h) (Or.inl ⟨by rfl, ?_⟩) (by assumption) ?_
          rotate_left
          · intro wS hSw
            ((have c9 := HL8.out _ hSw); go_simp; (try with_reducible rfl))
          (try simp only [Act.put, List.setIfInBounds_toArray, List.set_cons_zero, List.set_cons_succ])
          refine wpAnyH_take (i := 9) (oi := { dst := some 45, op := Go.Op.move (Go.Operand.tmp 1), type := 22, pos := "law.go:184", after := #[], guard := none }) (v := ?_) rfl (by kernel_rfl) (by kernel_rfl) (by kernel_rfl) (fun _ _ _ h => h) (Or.inl ⟨by rfl, ?_⟩) (by assumption) ?_
          rotate_left
          · intro wS hSw
            (try dsimp only at hSw)
            go_simp
            (try with_reducible rfl)
          (try simp only [Act.put, List.setIfInBounds_toArray, List.set_cons_zero, List.set_cons_succ])
          refine wpAnyH_take (i := 10) (oi := { dst := some 46, op := Go.Op.move (Go.Operand.tmp 11), type := 3, pos := "law.go:184", after := #[], guard := none }) (v := ?_) rfl (by kernel_rfl) (by kernel_rfl) (by kernel_rfl) (fun _ _ _ h => h) (Or.inl ⟨by rfl, ?_⟩) (by assumption) ?_
          rotate_left
          · intro wS hSw
            (try dsimp only at hSw)
            go_simp
            (try with_reducible rfl)
          (try simp only [Act.put, List.setIfInBounds_toArray, List.set_cons_zero, List.set_cons_succ])
          refine wpAnyH_take (i := 11) (oi := { dst := some 47, op := Go.Op.indexAddr 22 (Go.Operand.tmp 45) (Go.Operand.tmp 46), type := 0, pos := "law.go:184", after := #[{ on := 9, ground := Go.Ground.data }, { on := 10, ground := Go.Ground.data }], guard := none }) (v := ?_) rfl (by kernel_rfl) (by kernel_rfl) (by kernel_rfl) (fun _ _ _ h => h) (Or.inl ⟨by rfl, ?_⟩) (by assumption) ?_
          rotate_left
          · intro wS hSw
            (try dsimp only at hSw)
            go_simp
            (try with_reducible rfl)
          (try simp only [Act.put, List.setIfInBounds_toArray, List.set_cons_zero, List.set_cons_succ])
          refine wpAnyH_take (i := 12) (oi := { dst := some 48, op := Go.Op.load 5 (Go.Operand.tmp 47), type := 5, pos := "law.go:184", after := #[{ on := 11, ground := Go.Ground.data }], guard := none }) (v := ?_) rfl (by kernel_rfl) (by kernel_rfl) (by kernel_rfl) (fun _ _ _ h => h) (Or.inl ⟨by rfl, ?_⟩) (by assumption) ?_
          rotate_left
          · intro wS hSw
            ((have c9 := HL12.out _ hSw); go_simp; (try with_reducible rfl))
          (try simp only [Act.put, List.setIfInBounds_toArray, List.set_cons_zero, List.set_cons_succ])
          refine wpAnyH_take (i := 14) (oi := { dst := some 50, op := Go.Op.move (Go.Operand.tmp 2), type := 29, pos := "law.go:184", after := #[], guard := none }) (v := ?_) rfl (by kernel_rfl) (by kernel_rfl) (by kernel_rfl) (fun _ _ _ h => h) (Or.inl ⟨by rfl, ?_⟩) (by assumption) ?_
          rotate_left
          · intro wS hSw
            (try dsimp only at hSw)
            go_simp
            (try with_reducible rfl)
          (try simp only [Act.put, List.setIfInBounds_toArray, List.set_cons_zero, List.set_cons_succ])
          refine wpAnyH_take (i := 15) (oi := { dst := some 51, op := Go.Op.move (Go.Operand.tmp 14), type := 3, pos := "law.go:184", after := #[], guard := none }) (v := ?_) rfl (by kernel_rfl) (by kernel_rfl) (by kernel_rfl) (fun _ _ _ h => h) (Or.inl ⟨by rfl, ?_⟩) (by assumption) ?_
          rotate_left
          · intro wS hSw
            (try dsimp only at hSw)
            go_simp
            (try with_reducible rfl)
          (try simp only [Act.put, List.setIfInBounds_toArray, List.set_cons_zero, List.set_cons_succ])
          refine wpAnyH_take (i := 16) (oi := { dst := some 52, op := Go.Op.indexAddr 29 (Go.Operand.tmp 50) (Go.Operand.tmp 51), type := 0, pos := "law.go:184", after := #[{ on := 14, ground := Go.Ground.data }, { on := 15, ground := Go.Ground.data }], guard := none }) (v := ?_) rfl (by kernel_rfl) (by kernel_rfl) (by kernel_rfl) (fun _ _ _ h => h) (Or.inl ⟨by rfl, ?_⟩) (by assumption) ?_
          rotate_left
          · intro wS hSw
            (try dsimp only at hSw)
            go_simp
            (try with_reducible rfl)
          (try simp only [Act.put, List.setIfInBounds_toArray, List.set_cons_zero, List.set_cons_succ])
          refine wpAnyH_take (i := 17) (oi := { dst := some 53, op := Go.Op.fieldAddr 52 (Go.Operand.tmp 52) 0, type := 0, pos := "law.go:184", after := #[{ on := 16, ground := Go.Ground.data }], guard := none }) (v := ?_) rfl (by kernel_rfl) (by kernel_rfl) (by kernel_rfl) (fun _ _ _ h => h) (Or.inl ⟨by rfl, ?_⟩) (by assumption) ?_
          rotate_left
          · intro wS hSw
            (try dsimp only at hSw)
            go_simp
            (try with_reducible rfl)
          (try simp only [Act.put, List.setIfInBounds_toArray, List.set_cons_zero, List.set_cons_succ])
          refine wpAnyH_take (i := 18) (oi := { dst := some 54, op := Go.Op.load 5 (Go.Operand.tmp 53), type := 5, pos := "law.go:184", after := #[{ on := 17, ground := Go.Ground.data }], guard := none }) (v := ?_) rfl (by kernel_rfl) (by kernel_rfl) (by kernel_rfl) (fun _ _ _ h => h) (Or.inl ⟨by rfl, ?_⟩) (by assumption) ?_
          rotate_left
          · intro wS hSw
            ((have c9 := HL18.out _ hSw); go_simp; (try with_reducible rfl))
          (try simp only [Act.put, List.setIfInBounds_toArray, List.set_cons_zero, List.set_cons_succ])
          refine wpAnyH_ready (rs := [13]) (by kernel_rfl) (by simp) ?_
          refine AllReadyH.cons (o := { dst := some 49, op := Go.Op.call { callee := Go.Callee.value (Go.Operand.func 47), args := #[Go.Operand.tmp 44, Go.Operand.tmp 48], argTypes := #[5, 5] }, type := 5, pos := "law.go:184", after := #[{ on := 8, ground := Go.Ground.data }, { on := 12, ground := Go.Ground.data }], guard := none }) rfl (fun K hK => ?_) AllReadyH.nil
          go_simp
          (refine (add_any fi zi _ hfi hzi).mono ?_; rintro e w' ⟨rfl, rfl⟩; rw [HFZ.out]; skip)
          (try go_wp2_with fail)
          refine hK.out _ _ ?_ (fun hHeld => ?_)
          · (try dsimp only)
            first | assumption | exact hP_0 | exact hP_1
          clear hK K
          (try simp only [Act.put, List.setIfInBounds_toArray, List.set_cons_zero, List.set_cons_succ])
          refine wpAnyH_ready (rs := [19]) (by kernel_rfl) (by simp) ?_
          refine AllReadyH.cons (o := { dst := some 55, op := Go.Op.call { callee := Go.Callee.value (Go.Operand.func 46), args := #[Go.Operand.tmp 36, Go.Operand.tmp 49, Go.Operand.tmp 54], argTypes := #[34, 5, 5] }, type := 105, pos := "law.go:184", after := #[{ on := 0, ground := Go.Ground.data }, { on := 13, ground := Go.Ground.data }, { on := 18, ground := Go.Ground.data }, { on := 13, ground := Go.Ground.chain }], guard := none }) rfl (fun K hK => ?_) AllReadyH.nil
          go_simp
          (refine (div_any tb fz xa W0 HT0.out HFZ8.out hxa HXA.out).mono ?_; rintro e W1 ⟨rfl, hL1⟩; rw [HDV.out]; have HT1 := Lib.hid hL1.1; have HTG1 : Hid (TG W1 B u12 u13 a a X Y) := Lib.hid (HTG0.out.own hL1.2 HTB.out.2); have hP_1 := hP_0.trans hL1.2; have HO1 := Lib.hid (HO0.out.trans hL1.2); clear hP_0 hL1; skip)
          (try go_wp2_with fail)
          refine hK.out _ _ ?_ (fun hHeld => ?_)
          · (try dsimp only)
            first | assumption | exact hP_0 | exact hP_1
          clear hK K
          (try simp only [Act.put, List.setIfInBounds_toArray, List.set_cons_zero, List.set_cons_succ])
          refine wpAnyH_take (i := 20) (oi := { dst := some 35, op := Go.Op.move (Go.Operand.tmp 55), type := 105, pos := "law.go:184", after := #[{ on := 19, ground := Go.Ground.data }], guard := none }) (v := ?_) rfl (by kernel_rfl) (by kernel_rfl) (by kernel_rfl) (fun _ _ _ h => h) (Or.inl ⟨by rfl, ?_⟩) (by assumption) ?_
          rotate_left
          · intro wS hSw
            (try dsimp only at hSw)
            go_simp
            (try with_reducible rfl)
          (try simp only [Act.put, List.setIfInBounds_toArray, List.set_cons_zero, List.set_cons_succ])
          refine wpAnyH_take (i := 21) (oi := { dst := some 56, op := Go.Op.extract (Go.Operand.tmp 35) 0, type := 5, pos := "law.go:184", after := #[{ on := 20, ground := Go.Ground.data }], guard := none }) (v := ?_) rfl (by kernel_rfl) (by kernel_rfl) (by kernel_rfl) (fun _ _ _ h => h) (Or.inl ⟨by rfl, ?_⟩) (by assumption) ?_
          rotate_left
          · intro wS hSw
            (try dsimp only at hSw)
            go_simp
            (try with_reducible rfl)
          (try simp only [Act.put, List.setIfInBounds_toArray, List.set_cons_zero, List.set_cons_succ])
          refine wpAnyH_take (i := 22) (oi := { dst := some 57, op := Go.Op.extract (Go.Operand.tmp 35) 1, type := 31, pos := "law.go:184", after := #[{ on := 20, ground := Go.Ground.data }, { on := 23, ground := Go.Ground.gcOnly Go.Departure.lateStores }], guard := none }) (v := ?_) rfl (by kernel_rfl) (by kernel_rfl) (by kernel_rfl) (fun _ _ _ h => h) (Or.inl ⟨by rfl, ?_⟩) (by assumption) ?_
          rotate_left
          · intro wS hSw
            (try dsimp only at hSw)
            go_simp
            (try with_reducible rfl)
          (try simp only [Act.put, List.setIfInBounds_toArray, List.set_cons_zero, List.set_cons_succ])
          refine wpAnyH_take (i := 23) (oi := { dst := some 15, op := Go.Op.assign (Go.Operand.tmp 56), type := 5, pos := "law.go:184", after := #[{ on := 21, ground := Go.Ground.data }, { on := 19, ground := Go.Ground.chain }, { on := 0, ground := Go.Ground.phase }, { on := 1, ground := Go.Ground.phase }, { on := 2, ground := Go.Ground.phase }, { on := 3, ground := Go.Ground.phase }, { on := 4, ground := Go.Ground.phase }, { on := 5, ground := Go.Ground.phase }, { on := 6, ground := Go.Ground.phase }, { on := 7, ground := Go.Ground.phase }, { on := 8, ground := Go.Ground.phase }, { on := 9, ground := Go.Ground.phase }, { on := 10, ground := Go.Ground.phase }, { on := 11, ground := Go.Ground.phase }, { on := 12, ground := Go.Ground.phase }, { on := 13, ground := Go.Ground.phase }, { on := 14, ground := Go.Ground.phase }, { on := 15, ground := Go.Ground.phase }, { on := 16, ground := Go.Ground.phase }, { on := 17, ground := Go.Ground.phase }, { on := 18, ground := Go.Ground.phase }, { on := 19, ground := Go.Ground.phase }, { on := 20, ground := Go.Ground.phase }, { on := 21, ground := Go.Ground.phase }, { on := 22, ground := Go.Ground.textOnly Go.Departure.lateStores }], guard := none }) (v := ?_) rfl (by kernel_rfl) (by kernel_rfl) (by kernel_rfl) (fun _ _ _ h => h) (Or.inl ⟨by rfl, ?_⟩) (by assumption) ?_
          rotate_left
          · intro wS hSw
            (try dsimp only at hSw)
            go_simp
            (try with_reducible rfl)
          (try simp only [Act.put, List.setIfInBounds_toArray, List.set_cons_zero, List.set_cons_succ])
          refine wpAnyH_take (i := 24) (oi := { dst := some 16, op := Go.Op.assign (Go.Operand.tmp 57), type := 31, pos := "law.go:184", after := #[{ on := 22, ground := Go.Ground.data }, { on := 23, ground := Go.Ground.chain }, { on := 0, ground := Go.Ground.phase }, { on := 1, ground := Go.Ground.phase }, { on := 2, ground := Go.Ground.phase }, { on := 3, ground := Go.Ground.phase }, { on := 4, ground := Go.Ground.phase }, { on := 5, ground := Go.Ground.phase }, { on := 6, ground := Go.Ground.phase }, { on := 7, ground := Go.Ground.phase }, { on := 8, ground := Go.Ground.phase }, { on := 9, ground := Go.Ground.phase }, { on := 10, ground := Go.Ground.phase }, { on := 11, ground := Go.Ground.phase }, { on := 12, ground := Go.Ground.phase }, { on := 13, ground := Go.Ground.phase }, { on := 14, ground := Go.Ground.phase }, { on := 15, ground := Go.Ground.phase }, { on := 16, ground := Go.Ground.phase }, { on := 17, ground := Go.Ground.phase }, { on := 18, ground := Go.Ground.phase }, { on := 19, ground := Go.Ground.phase }, { on := 20, ground := Go.Ground.phase }, { on := 21, ground := Go.Ground.phase }, { on := 22, ground := Go.Ground.phase }, { on := 23, ground := Go.Ground.phase }], guard := none }) (v := ?_) rfl (by kernel_rfl) (by kernel_rfl) (by kernel_rfl) (fun _ _ _ h => h) (Or.inl ⟨by rfl, ?_⟩) (by assumption) ?_
          rotate_left
          · intro wS hSw
            (try dsimp only at hSw)
            go_simp
            (try with_reducible rfl)
          (try simp only [Act.put, List.setIfInBounds_toArray, List.set_cons_zero, List.set_cons_succ])
          refine wpAnyH_done (by kernel_rfl) ?_ _
          clear hP_1
          have d18 : W1.cell? ⟨b, off + a * 3, none⟩ = some (.int .u8 (xa : Nat)) := HL18.out _ (HOR.out.trans HO1.out)
          have HA1 : Hid (TG (W1.alloc (.cells #[.int .u8 (xa : Nat)] 5)) B u12 u13 a a X Y) := Lib.hid (HTG1.out.later ((Below.refl _ _).alloc (Nat.le_refl _) _))
          have HSZ : Hid (B ≤ W1.heap.size) := Lib.hid (by rw [← HBW.out]; exact HO1.out.size)
          go_wp2_with (first
            | (refine wpList_appO rfl (.tmp 68) (.tmp 70) rfl B u13 a 1 1 (some ⟨w6.heap.size, 0, none⟩) Y (fun _ => dv) _ rfl HB6.out.b rfl (fun e => by cases e) (ob1 rfl HDV8.out) (by have := HKB.out; omega) HS6.out ?_; intro v7 w7 hG7 hg7 hob7; have H7 : Hid (TG w7 B v6 v7 (a + 1) (a + 1) X Y) := Lib.hid (HB6.out.growB hg7 (hG7.congr (catF_self fun j hj => by obtain rfl : j = 0 := (by omega); exact HYA.out.symm)) hob7); have HB67 := Lib.hid (((Below.refl B w6).alloc HS6b.out (.cells #[.int .u8 (dv : Nat)] 5)).trans (grown_in HB6.out.b hg7 HS6.out)); clear hG7 hg7 hob7 HB6)
            | (refine wpList_appO rfl (.tmp 60) (.tmp 66) rfl B u12 a 1 1 (some ⟨W1.heap.size, 0, none⟩) X (fun _ => xa) _ rfl HA1.out.a rfl (fun e => by cases e) (ob1 rfl hxa) (by have := HKB.out; omega) (by have := HSZ.out; simp; omega) ?_; intro v6 w6 hG6 hg6 hob6; have H6 : Hid (TG w6 B v6 u13 (a + 1) a X Y) := Lib.hid (HA1.out.growA hg6 (hG6.congr (catF_self fun j hj => by obtain rfl : j = 0 := (by omega); exact HXX.out.symm)) hob6); have HB16 := Lib.hid (((Below.refl B W1).alloc HSZ.out (.cells #[.int .u8 (xa : Nat)] 5)).trans (grown_in HA1.out.a hg6 (by have := HSZ.out; simp; omega))); have HS6b : Hid (B ≤ w6.heap.size) := Lib.hid (Nat.le_trans HSZ.out HB16.out.size); have HB6 : Hid (TG (w6.alloc (.cells #[.int .u8 (dv : Nat)] 5)) B v6 u13 (a + 1) a X Y) := Lib.hid (H6.out.later ((Below.refl _ _).alloc (Nat.le_refl _) _)); have HS6 : Hid (B ≤ (w6.alloc (.cells #[.int .u8 (dv : Nat)] 5)).heap.size) := Lib.hid (by have := HS6b.out; simp; omega); clear hG6 hg6 hob6 HA1 d18))
          have HBA := Lib.hid (HB16.out.trans HB67.out)
          clear HB16 HB67 H6 HS6
          go_roundw
          case rel => exact ⟨a + 1, by omega, by go_num, H7.out, HT1.out.belowB HBA.out HTB.out.2, HO1.out.then_below HBA.out (Nat.le_of_eq HBW.out), Nat.le_trans HO1.out.size HBA.out.size⟩
          case measure => simp [intOf]; omega
        · obtain rfl : k = a := by omega
          obtain ⟨gx, cx, gy, cy, rfl, rfl, hgx, hgy, hxy, hRX, hRY⟩ := HTG.out.rows hk
          have HNE : Hid (gx ≠ tb ∧ gy ≠ tb ∧ gx ≠ gy) := Lib.hid (by have := HTB.out; omega)
          have HNE2 : Hid (w0.heap.size ≤ gy) := Lib.hid (by have := HBas.out; have := HB0S.out; omega)
          have HGO := Lib.hid (HG1.out.own HOR2.out HBB.out.2)
          have HVO : Hid (u10.ownBlock ≠ some gx ∧ u10.ownBlock ≠ some gy) := Lib.hid ⟨fun e => by have := (HG1.out.ltS _ e).2; have := HBW.out; omega, fun e => by have := (HG1.out.ltS _ e).2; have := HBW.out; omega⟩
          have HO3 := Lib.hid (HOR.out.trans HOR2.out)
          have HRX := Lib.hid hRX
          have HRY := Lib.hid hRY
          have HXN : Hid (∀ i j, i < j → j < k → X i ≠ X j) := Lib.hid fun i j h1 h2 => by rw [← HXE.out, ← HXE.out]; exact HNEQ.out i j h1 h2
          have HXB : Hid (∀ a, a < k → X a < 256) := Lib.hid fun a h1 => by rw [← HXE.out]; exact HX8.out a h1
          have HX0B : Hid (∀ a, a < k → X a ≠ 0) := Lib.hid fun a h1 => by rw [← HXE.out]; exact (HIX.out a h1).2
          clear hgx hgy hxy hRX hRY HTG HG1 HOR2 HOR HTR HOW0 HYE
          go_wp2_with fail
          go_loopw [10, 17] (fun v x wr => ∃ q : Nat, q ≤ k ∧ x = .int .i64 (q : Int) ∧ Grow wr base v (m + q) (drF S z k) ∧ (v.ownBlock ≠ some gx ∧ v.ownBlock ≠ some gy) ∧ BRow wr gx k X ∧ BRow wr gy k (yS X Y k q) ∧ TabIn wr tb ∧ Own tb w0 wr) (fun _ x _ => k - (intOf x).toNat)
          case atStart => exact ⟨0, Nat.zero_le _, rfl, HGO.out, HVO.out, HRX.out, HRY.out, HTR2.out, HO3.out⟩
          case round =>
            obtain ⟨q, hq, rfl, hG, hV, hX, hY, hT, hO⟩ := hrel
            clear HGO HVO HRX HRY HTR2 HO3
            have HG := Lib.hid hG
            have HV := Lib.hid hV
            have HX := Lib.hid hX
            have HY := Lib.hid hY
            have HT := Lib.hid hT
            have HO := Lib.hid hO
            clear hG hV hX hY hT hO
            have hck := HCK.out _ HO.out
            by_cases hlq : q < k
            · have hq0 : (0 : Int) ≤ (q : Int) ∧ (q : Int) < (k : Int) := by omega
              have HYB : Hid (∀ a, a < k → yS X Y k q a < 256) := Lib.hid fun a h1 => yS_lt HY8.out q a h1
              obtain ⟨vv, hvv0⟩ : ∃ vv, zeroF X (yS X Y k q) k = vv := ⟨_, rfl⟩
              have hvv : vv < 256 := by rw [← hvv0]; exact zeroF_lt HYB.out
              have HZA := Lib.hid (zero_any tb (some ⟨gx, 0, none⟩) (some ⟨gy, 0, none⟩) k cx cy X (yS X Y k q) wr HT.out (HX.out.bytes HXB.out) (Apart.of_ne HNE.out.1) (HY.out.bytes HYB.out) (Apart.of_ne HNE.out.2.1) (by have := HKB.out; omega) HXN.out)
              rw [hvv0] at HZA
              have HVQ : Hid (drF S z k (m + q) = vv) := Lib.hid (by rw [HYD.out q hlq, hvv0])
              have HVV := Lib.hid hvv0
              clear hvv0
              go_wp2_with fail
              refine HZA.out.mono ?_
              rintro e w4 ⟨rfl, hL4⟩
              have HX4 := Lib.hid (HX.out.own hL4.2 HNE.out.1)
              have HY4 := Lib.hid (HY.out.own hL4.2 HNE.out.2.1)
              have HG4 := Lib.hid ((HG.out.own hL4.2 HBB.out.2).alloc (.cells #[.int .u8 (vv : Nat)] 5))
              have HO4 := Lib.hid (HO.out.trans hL4.2)
              have HT4 := Lib.hid hL4.1
              have HS4 : Hid (base ≤ w4.heap.size) := Lib.hid (by have := HO4.out.size; have := HB0S.out; omega)
              clear hL4 hck HZA HX HY HG HO HT
              go_wp2_with (refine wpList_appO rfl (.tmp 88) (.tmp 90) rfl base u10 (m + q) 1 1 (some ⟨w4.heap.size, 0, none⟩) (drF S z k) (fun _ => vv) _ rfl HG4.out rfl (fun e => by cases e) (ob1 rfl hvv) (by have := HMB.out; omega) (by have := HS4.out; simp; omega) ?_; intro v5 w5 hG5 hg5 hob5; have HG5 : Hid (Grow w5 base v5 (m + (q + 1)) (drF S z k)) := Lib.hid (hG5.congr (catF_self fun j hj => by obtain rfl : j = 0 := (by omega); exact HVQ.out.symm)); have HB5 := Lib.hid (((Below.refl base w4).alloc HS4.out (.cells #[.int .u8 (vv : Nat)] 5)).trans (grown_in HG4.out hg5 (by have := HS4.out; simp; omega))); have HX5 := Lib.hid ((HX4.out.alloc _).grown hg5 HV.out.1); have HY5 := Lib.hid ((HY4.out.alloc _).grown hg5 HV.out.2); have HV5 : Hid (v5.ownBlock ≠ some gx ∧ v5.ownBlock ≠ some gy) := Lib.hid (grown_ne hob5 HV.out HX4.out.lt HY4.out.lt); clear hG5 hg5 hob5 HG4 HX4 HY4)
              have HT5 := Lib.hid (HT4.out.belowB HB5.out HBB.out.2)
              have HO5 := Lib.hid (HO4.out.then_below HB5.out (Nat.le_of_eq HB0S.out))
              clear HT4 HO4 HB5 HS4 HV HVQ
              go_loopw [20] (fun x wr => ∃ a : Nat, a ≤ k ∧ x = .int .i64 (a : Int) ∧ BRow wr gx k X ∧ BRow wr gy k (mixY X Y k q a) ∧ Grow wr base v5 (m + (q + 1)) (drF S z k) ∧ TabIn wr tb ∧ Own tb w0 wr) (fun x _ => k - (intOf x).toNat)
              case atStart => exact ⟨0, Nat.zero_le _, rfl, HX5.out, HY5.out.congr (fun j _ => (if_neg (Nat.not_lt_zero j)).symm), HG5.out, HT5.out, HO5.out⟩
              case round =>
                obtain ⟨a, ha, rfl, hX, hY, hG, hT, hO⟩ := hrel
                clear HX5 HY5 HG5 HT5 HO5
                have HX := Lib.hid hX
                have HY := Lib.hid hY
                have HG := Lib.hid hG
                have HT := Lib.hid hT
                have HO := Lib.hid hO
                clear hX hY hG hT hO
                by_cases hlta : a < k
                · have ha0 : (0 : Int) ≤ (a : Int) ∧ (a : Int) < (k : Int) := by omega
                  obtain ⟨ya, hye⟩ : ∃ x, yS X Y k q a = x := ⟨_, rfl⟩
                  obtain ⟨xa, hxe⟩ : ∃ x, X a = x := ⟨_, rfl⟩
                  have hya : ya < 256 := by rw [← hye]; exact HYB.out a hlta
                  have hxa : xa < 256 := by rw [← hxe]; exact HXB.out a hlta
                  have HXA : Hid (xa ≠ 0) := Lib.hid (by rw [← hxe]; exact HX0B.out a hlta)
                  obtain ⟨yv, hyv⟩ : ∃ x, ya ^^^ vv = x := ⟨_, rfl⟩
                  have HYV := Lib.hid hyv
                  have HYV8 : Hid (yv < 256) := Lib.hid (by rw [← hyv]; exact xor_lt hya hvv)
                  obtain ⟨dv, hdv⟩ : ∃ x, divN yv xa = x := ⟨_, rfl⟩
                  have HDV := Lib.hid hdv
                  have HDVE : Hid (dv = divN (yS X Y k q a ^^^ zeroF X (yS X Y k q) k) (X a)) := Lib.hid (by rw [hye, HVV.out, hxe, hyv, hdv])
                  have HLY : Hid (∀ w7, Own tb wr w7 → w7.cell? ⟨gy, a, none⟩ = some (.int .u8 (ya : Nat))) := Lib.hid fun w7 h7 => by rw [(HY.out.own h7 HNE.out.2.1).cell hlta, mixY_at, hye]
                  have HLX : Hid (∀ w7, Own tb wr w7 → w7.cell? ⟨gx, a, none⟩ = some (.int .u8 (xa : Nat))) := Lib.hid fun w7 h7 => by rw [(HX.out.own h7 HNE.out.1).cell hlta, hxe]
                  have hP_0 : Own tb wr wr.drew := (Own.refl _ _).drew
                  have HX0 : Hid (BRow wr.drew gx k X) := Lib.hid HX.out
                  have HY0 : Hid (BRow wr.drew gy k (mixY X Y k q a)) := Lib.hid HY.out
                  have HG0 : Hid (Grow wr.drew base v5 (m + (q + 1)) (drF S z k)) := Lib.hid HG.out
                  have HT0 : Hid (TabIn wr.drew tb) := Lib.hid HT.out
                  have HO0 : Hid (Own tb w0 wr.drew) := Lib.hid HO.out.drew
                  clear hye hxe hyv hdv HX HY HG HT HO
                  go_wp2_with fail
                  refine wp_region_held_drew (S := (Own tb wr)) (by kernel_rfl) ?_ (fun hHeld => ?_)
                  · (try dsimp only)
                    first | assumption | exact hP_0 | exact hP_1
                  generalize wr.drew = W0 at *
                  refine wpAnyH_take (i := 0) (oi := { dst := some 99, op := Go.Op.move (Go.Operand.tmp 0), type := 34, pos := "law.go:197", after := #[], guard := none }) (v := ?_) rfl (by kernel_rfl) (by kernel_rfl) (by kernel_rfl) (fun _ _ _ h => h) (Or.inl ⟨by rfl, ?_⟩) (by assumption) ?_
                  rotate_left
                  · intro wS hSw
                    (try dsimp only at hSw)
                    go_simp
                    (try with_reducible rfl)
                  (try simp only [Act.put, List.setIfInBounds_toArray, List.set_cons_zero, List.set_cons_succ])
                  refine wpAnyH_take (i := 1) (oi := { dst := some 100, op := Go.Op.move (Go.Operand.tmp 13), type := 22, pos := "law.go:197", after := #[], guard := none }) (v := ?_) rfl (by kernel_rfl) (by kernel_rfl) (by kernel_rfl) (fun _ _ _ h => h) (Or.inl ⟨by rfl, ?_⟩) (by assumption) ?_
                  rotate_left
                  · intro wS hSw
                    (try dsimp only at hSw)
                    go_simp
                    (try with_reducible rfl)
                  (try simp only [Act.put, List.setIfInBounds_toArray, List.set_cons_zero, List.set_cons_succ])
                  refine wpAnyH_take (i := 2) (oi := { dst := some 101, op := Go.Op.move (Go.Operand.tmp 20), type := 3, pos := "law.go:197", after := #[], guard := none }) (v := ?_) rfl (by kernel_rfl) (by kernel_rfl) (by kernel_rfl) (fun _ _ _ h => h) (Or.inl ⟨by rfl, ?_⟩) (by assumption) ?_
                  rotate_left
                  · intro wS hSw
                    (try dsimp only at hSw)
                    go_simp
                    (try with_reducible rfl)
                  (try simp only [Act.put, List.setIfInBounds_toArray, List.set_cons_zero, List.set_cons_succ])
                  refine wpAnyH_take (i := 3) (oi := { dst := some 102, op := Go.Op.indexAddr 22 (Go.Operand.tmp 100) (Go.Operand.tmp 101), type := 0, pos := "law.go:197", after := #[{ on := 1, ground := Go.Ground.data }, { on := 2, ground := Go.Ground.data }], guard := none }) (v := ?_) rfl (by kernel_rfl) (by kernel_rfl) (by kernel_rfl) (fun _ _ _ h => h) (Or.inl ⟨by rfl, ?_⟩) (by assumption) ?_
                  rotate_left
                  · intro wS hSw
                    (try dsimp only at hSw)
                    go_simp
                    (try with_reducible rfl)
                  (try simp only [Act.put, List.setIfInBounds_toArray, List.set_cons_zero, List.set_cons_succ])
                  refine wpAnyH_take (i := 4) (oi := { dst := some 103, op := Go.Op.load 5 (Go.Operand.tmp 102), type := 5, pos := "law.go:197", after := #[{ on := 3, ground := Go.Ground.data }], guard := none }) (v := ?_) rfl (by kernel_rfl) (by kernel_rfl) (by kernel_rfl) (fun _ _ _ h => h) (Or.inl ⟨by rfl, ?_⟩) (by assumption) ?_
                  rotate_left
                  · intro wS hSw
                    ((have c9 := HLY.out _ hSw); go_simp; (try with_reducible rfl))
                  (try simp only [Act.put, List.setIfInBounds_toArray, List.set_cons_zero, List.set_cons_succ])
                  refine wpAnyH_take (i := 5) (oi := { dst := some 104, op := Go.Op.move (Go.Operand.tmp 18), type := 5, pos := "law.go:197", after := #[], guard := none }) (v := ?_) rfl (by kernel_rfl) (by kernel_rfl) (by kernel_rfl) (fun _ _ _ h => h) (Or.inl ⟨by rfl, ?_⟩) (by assumption) ?_
                  rotate_left
                  · intro wS hSw
                    (try dsimp only at hSw)
                    go_simp
                    (try with_reducible rfl)
                  (try simp only [Act.put, List.setIfInBounds_toArray, List.set_cons_zero, List.set_cons_succ])
                  refine wpAnyH_take (i := 7) (oi := { dst := some 106, op := Go.Op.move (Go.Operand.tmp 12), type := 22, pos := "law.go:197", after := #[], guard := none }) (v := ?_) rfl (by kernel_rfl) (by kernel_rfl) (by kernel_rfl) (fun _ _ _ h => h) (Or.inl ⟨by rfl, ?_⟩) (by assumption) ?_
                  rotate_left
                  · intro wS hSw
                    (try dsimp only at hSw)
                    go_simp
                    (try with_reducible rfl)
                  (try simp only [Act.put, List.setIfInBounds_toArray, List.set_cons_zero, List.set_cons_succ])
                  refine wpAnyH_take (i := 8) (oi := { dst := some 107, op := Go.Op.move (Go.Operand.tmp 20), type := 3, pos := "law.go:197", after := #[], guard := none }) (v := ?_) rfl (by kernel_rfl) (by kernel_rfl) (by kernel_rfl) (fun _ _ _ h => h) (Or.inl ⟨by rfl, ?_⟩) (by assumption) ?_
                  rotate_left
                  · intro wS hSw
                    (try dsimp only at hSw)
                    go_simp
                    (try with_reducible rfl)
                  (try simp only [Act.put, List.setIfInBounds_toArray, List.set_cons_zero, List.set_cons_succ])
                  refine wpAnyH_take (i := 9) (oi := { dst := some 108, op := Go.Op.indexAddr 22 (Go.Operand.tmp 106) (Go.Operand.tmp 107), type := 0, pos := "law.go:197", after := #[{ on := 7, ground := Go.Ground.data }, { on := 8, ground := Go.Ground.data }], guard := none }) (v := ?_) rfl (by kernel_rfl) (by kernel_rfl) (by kernel_rfl) (fun _ _ _ h => h) (Or.inl ⟨by rfl, ?_⟩) (by assumption) ?_
                  rotate_left
                  · intro wS hSw
                    (try dsimp only at hSw)
                    go_simp
                    (try with_reducible rfl)
                  (try simp only [Act.put, List.setIfInBounds_toArray, List.set_cons_zero, List.set_cons_succ])
                  refine wpAnyH_take (i := 10) (oi := { dst := some 109, op := Go.Op.load 5 (Go.Operand.tmp 108), type := 5, pos := "law.go:197", after := #[{ on := 9, ground := Go.Ground.data }], guard := none }) (v := ?_) rfl (by kernel_rfl) (by kernel_rfl) (by kernel_rfl) (fun _ _ _ h => h) (Or.inl ⟨by rfl, ?_⟩) (by assumption) ?_
                  rotate_left
                  · intro wS hSw
                    ((have c9 := HLX.out _ hSw); go_simp; (try with_reducible rfl))
                  (try simp only [Act.put, List.setIfInBounds_toArray, List.set_cons_zero, List.set_cons_succ])
                  refine wpAnyH_ready (rs := [6]) (by kernel_rfl) (by simp) ?_
                  refine AllReadyH.cons (o := { dst := some 105, op := Go.Op.call { callee := Go.Callee.value (Go.Operand.func 47), args := #[Go.Operand.tmp 103, Go.Operand.tmp 104], argTypes := #[5, 5] }, type := 5, pos := "law.go:197", after := #[{ on := 4, ground := Go.Ground.data }, { on := 5, ground := Go.Ground.data }], guard := none }) rfl (fun K hK => ?_) AllReadyH.nil
                  go_simp
                  (refine (add_any ya vv _ hya hvv).mono ?_; rintro e w' ⟨rfl, rfl⟩; rw [HYV.out]; skip)
                  (try go_wp2_with fail)
                  refine hK.out _ _ ?_ (fun hHeld => ?_)
                  · (try dsimp only)
                    first | assumption | exact hP_0 | exact hP_1
                  clear hK K
                  (try simp only [Act.put, List.setIfInBounds_toArray, List.set_cons_zero, List.set_cons_succ])
                  refine wpAnyH_ready (rs := [11]) (by kernel_rfl) (by simp) ?_
                  refine AllReadyH.cons (o := { dst := some 110, op := Go.Op.call { callee := Go.Callee.value (Go.Operand.func 46), args := #[Go.Operand.tmp 99, Go.Operand.tmp 105, Go.Operand.tmp 109], argTypes := #[34, 5, 5] }, type := 105, pos := "law.go:197", after := #[{ on := 0, ground := Go.Ground.data }, { on := 6, ground := Go.Ground.data }, { on := 10, ground := Go.Ground.data }, { on := 6, ground := Go.Ground.chain }], guard := none }) rfl (fun K hK => ?_) AllReadyH.nil
                  go_simp
                  (refine (div_any tb yv xa W0 HT0.out HYV8.out hxa HXA.out).mono ?_; rintro e W1 ⟨rfl, hL1⟩; rw [HDV.out]; have hP_1 := hP_0.trans hL1.2; have HL1 := Lib.hid hL1; clear hP_0 hL1; skip)
                  (try go_wp2_with fail)
                  refine hK.out _ _ ?_ (fun hHeld => ?_)
                  · (try dsimp only)
                    first | assumption | exact hP_0 | exact hP_1
                  clear hK K
                  (try simp only [Act.put, List.setIfInBounds_toArray, List.set_cons_zero, List.set_cons_succ])
                  refine wpAnyH_take (i := 12) (oi := { dst := some 98, op := Go.Op.move (Go.Operand.tmp 110), type := 105, pos := "law.go:197", after := #[{ on := 11, ground := Go.Ground.data }], guard := none }) (v := ?_) rfl (by kernel_rfl) (by kernel_rfl) (by kernel_rfl) (fun _ _ _ h => h) (Or.inl ⟨by rfl, ?_⟩) (by assumption) ?_
                  rotate_left
                  · intro wS hSw
                    (try dsimp only at hSw)
                    go_simp
                    (try with_reducible rfl)
                  (try simp only [Act.put, List.setIfInBounds_toArray, List.set_cons_zero, List.set_cons_succ])
                  refine wpAnyH_take (i := 13) (oi := { dst := some 111, op := Go.Op.extract (Go.Operand.tmp 98) 0, type := 5, pos := "law.go:197", after := #[{ on := 12, ground := Go.Ground.data }], guard := none }) (v := ?_) rfl (by kernel_rfl) (by kernel_rfl) (by kernel_rfl) (fun _ _ _ h => h) (Or.inl ⟨by rfl, ?_⟩) (by assumption) ?_
                  rotate_left
                  · intro wS hSw
                    (try dsimp only at hSw)
                    go_simp
                    (try with_reducible rfl)
                  (try simp only [Act.put, List.setIfInBounds_toArray, List.set_cons_zero, List.set_cons_succ])
                  refine wpAnyH_take (i := 14) (oi := { dst := some 112, op := Go.Op.extract (Go.Operand.tmp 98) 1, type := 31, pos := "law.go:197", after := #[{ on := 12, ground := Go.Ground.data }, { on := 15, ground := Go.Ground.gcOnly Go.Departure.lateStores }], guard := none }) (v := ?_) rfl (by kernel_rfl) (by kernel_rfl) (by kernel_rfl) (fun _ _ _ h => h) (Or.inl ⟨by rfl, ?_⟩) (by assumption) ?_
                  rotate_left
                  · intro wS hSw
                    (try dsimp only at hSw)
                    go_simp
                    (try with_reducible rfl)
                  (try simp only [Act.put, List.setIfInBounds_toArray, List.set_cons_zero, List.set_cons_succ])
                  refine wpAnyH_take (i := 15) (oi := { dst := some 21, op := Go.Op.assign (Go.Operand.tmp 111), type := 5, pos := "law.go:197", after := #[{ on := 13, ground := Go.Ground.data }, { on := 11, ground := Go.Ground.chain }, { on := 0, ground := Go.Ground.phase }, { on := 1, ground := Go.Ground.phase }, { on := 2, ground := Go.Ground.phase }, { on := 3, ground := Go.Ground.phase }, { on := 4, ground := Go.Ground.phase }, { on := 5, ground := Go.Ground.phase }, { on := 6, ground := Go.Ground.phase }, { on := 7, ground := Go.Ground.phase }, { on := 8, ground := Go.Ground.phase }, { on := 9, ground := Go.Ground.phase }, { on := 10, ground := Go.Ground.phase }, { on := 11, ground := Go.Ground.phase }, { on := 12, ground := Go.Ground.phase }, { on := 13, ground := Go.Ground.phase }, { on := 14, ground := Go.Ground.textOnly Go.Departure.lateStores }], guard := none }) (v := ?_) rfl (by kernel_rfl) (by kernel_rfl) (by kernel_rfl) (fun _ _ _ h => h) (Or.inl ⟨by rfl, ?_⟩) (by assumption) ?_
                  rotate_left
                  · intro wS hSw
                    (try dsimp only at hSw)
                    go_simp
                    (try with_reducible rfl)
                  (try simp only [Act.put, List.setIfInBounds_toArray, List.set_cons_zero, List.set_cons_succ])
                  refine wpAnyH_take (i := 16) (oi := { dst := some 22, op := Go.Op.assign (Go.Operand.tmp 112), type := 31, pos := "law.go:197", after := #[{ on := 14, ground := Go.Ground.data }, { on := 15, ground := Go.Ground.chain }, { on := 0, ground := Go.Ground.phase }, { on := 1, ground := Go.Ground.phase }, { on := 2, ground := Go.Ground.phase }, { on := 3, ground := Go.Ground.phase }, { on := 4, ground := Go.Ground.phase }, { on := 5, ground := Go.Ground.phase }, { on := 6, ground := Go.Ground.phase }, { on := 7, ground := Go.Ground.phase }, { on := 8, ground := Go.Ground.phase }, { on := 9, ground := Go.Ground.phase }, { on := 10, ground := Go.Ground.phase }, { on := 11, ground := Go.Ground.phase }, { on := 12, ground := Go.Ground.phase }, { on := 13, ground := Go.Ground.phase }, { on := 14, ground := Go.Ground.phase }, { on := 15, ground := Go.Ground.phase }], guard := none }) (v := ?_) rfl (by kernel_rfl) (by kernel_rfl) (by kernel_rfl) (fun _ _ _ h => h) (Or.inl ⟨by rfl, ?_⟩) (by assumption) ?_
                  rotate_left
                  · intro wS hSw
                    (try dsimp only at hSw)
                    go_simp
                    (try with_reducible rfl)
                  (try simp only [Act.put, List.setIfInBounds_toArray, List.set_cons_zero, List.set_cons_succ])
                  refine wpAnyH_done (by kernel_rfl) ?_ _
                  clear hP_1
                  have HX1 := Lib.hid (HX0.out.own HL1.out.2 HNE.out.1)
                  have HY1 := Lib.hid (HY0.out.own HL1.out.2 HNE.out.2.1)
                  have HG1 := Lib.hid (HG0.out.own HL1.out.2 HBB.out.2)
                  have HO1 := Lib.hid (HO0.out.trans HL1.out.2)
                  have q1 := HY1.out.cell hlta
                  have q2 := HY1.out.free a
                  have HOS : Hid (Own gy W1 (W1.setCell ⟨gy, a, none⟩ (.int .u8 (dv : Nat)))) := Lib.hid ((Own.refl gy W1).set a _)
                  have HY2 : Hid (BRow (W1.setCell ⟨gy, a, none⟩ (.int .u8 (dv : Nat))) gy k (mixY X Y k q (a + 1))) := Lib.hid (by rw [← mixY_step, ← HDVE.out]; exact HY1.out.set a dv)
                  have HX2 := Lib.hid (HX1.out.own HOS.out HNE.out.2.2)
                  have HG2 := Lib.hid (HG1.out.ownN HOS.out HV5.out.2)
                  have HO2 := Lib.hid (HO1.out.then_new HOS.out HNE2.out)
                  have HT2 := Lib.hid (HL1.out.1.own HOS.out (Ne.symm HNE.out.2.1))
                  clear HX1 HY1 HG1 HO1 HL1 HOS
                  go_wp2_with fail
                  go_roundw
                  case rel => exact ⟨a + 1, by omega, by go_num, HX2.out, HY2.out, HG2.out, HT2.out, HO2.out⟩
                  case measure => simp [intOf]; omega
                · obtain rfl : k = a := by omega
                  go_wp2_with fail
                  go_roundw
                  case rel => exact ⟨q + 1, by omega, by go_num, HG.out, HV5.out, HX.out, HY.out.congr (fun j hj => if_pos hj), HT.out, HO.out⟩
                  case measure => simp [intOf]; omega
            · obtain rfl : k = q := by omega
              go_wp2_with fail
              go_roundw
              case rel => exact ⟨i + 1, by omega, by go_num, by rw [Nat.succ_mul, HMK.out]; exact HG.out, HT.out, HO.out⟩
              case measure => simp [intOf]; omega
    · obtain rfl : L = i := by omega
      obtain ⟨g0, cap, rfl, h1, h2, h3, h4⟩ := BRow.of_grow HG.out HL9.out.2
      have HQ : Hid (w.heap.size ≤ g0 ∧ L * k ≤ cap ∧ Bytes wo (some ⟨g0, 0, none⟩) (L * k) (drF S z k) ∧ TabIn wo tb ∧ Own tb w wo) := Lib.hid ⟨by have := HBB.out; omega, h2, h4.bytes fun j _ => drawF_lt _ _ _ _ _, HTR.out, (Own.of_below HB0.out).trans HOR.out⟩
      clear h1 h2 h3 h4 HG HTR HOR
      go_wp2_with fail
      go_ret2
      exact ⟨g0, cap, rfl, HQ.out⟩
end Go.Proofs.YtmhofofidmbgfaaDoor
