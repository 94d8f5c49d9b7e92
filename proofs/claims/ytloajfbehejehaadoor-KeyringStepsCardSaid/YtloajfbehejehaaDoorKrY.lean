/- A ring as bytes. A key found by its term. A ring from its bytes. The term in use; a term's use; what must always come. A term's use, told by the program and by the document. What must always come. Keys of 32 bytes that came in. -/
import Derived.Test.YtloajfbehejehaaDoorKrX
import Derived.Shelf.Abstract
import Derived.Laws.Cover3
import Derived.Test.YtloajfbehejehaaDoorHk9
import Derived.Deep.Slices
import Derived.ProofKit
import Derived.OpenShut
namespace Go.Proofs.YtloajfbehejehaaDoor
set_option linter.unusedVariables false
set_option linter.unusedSimpArgs false
open Go.RowKit
/-- A function that ranges over one, from its body. -/
theorem calls_marks {P : Program} {f : FuncId} {fn : Func} {c : Code} {args : Array Value} {w : World} {R : Ending → World → Prop} (hf : P.funcs[f]? = some fn) (hb : fn.body = some c)
    (h : c.wp P (bodyPostM Fence.wide 0 P fn R) { tmps := args ++ Array.replicate (fn.ntmps - args.size) undef, defers := [] } w) : Calls P f args w R :=
  (callsIn_wide (n := 0)).1 (callsIn_of_wp_marks hf hb trivial ((wpIn_wide (n := 0)).2 h) rfl)
theorem Turned.grow {B base n : Nat} {A A' : World} {v : Value} {f : Nat → Nat} (h : Turned B A A') (hG : Grow A base v n f) : Grow A' base v n f := by
  obtain ⟨hl, h1 | ⟨g, cap, cur, h1, h2, h3, h4⟩⟩ := hG
  · exact ⟨hl, .inl h1⟩
  · exact ⟨hl, .inr ⟨g, cap, cur, h1, h2, h.block h3, h4⟩⟩
theorem keeps_app {B base n : Nat} {W W1 W2 : World} {v : Value} {f : Nat → Nat} (hG : Grow W base v n f) (hb : Below W.heap.size W W1) (hg : W1.grownBy W2 v.ownBlock) : Keeps B W W2 := by
  refine ⟨Nat.le_trans hb.size hg.size, fun k o _ hk ho => ?_⟩
  have hlt := lt_of_block hk
  refine (hg.block k (Nat.lt_of_lt_of_le hlt hb.size) (fun e => ?_)).trans ((hb.block k hlt).trans hk)
  rcases hG.2 with ⟨rfl, _⟩ | ⟨g, cap, cur, rfl, _, h3, _⟩
  · cases e
  · cases e
    rw [h3] at hk; cases hk; cases ho
theorem own_put (W : World) (D : Nat) (o : Obj) : Own D W (W.putObj D o) := ⟨rfl, rfl, rfl, by simp, fun k _ hn => World.putObj_heap_other hn⟩
set_option maxHeartbeats 1000000 in
theorem keys_any (oa : Option Addr) (n cs : Nat) (w : World) : Calls Tryd.prog 25 #[.agg #[.slice oa n cs]] w fun e w' => e = .returned (.func (.func 32) #[] #[.pointer (some ⟨w.heap.size, 0, none⟩)]) ∧ w' = w.alloc (.cells #[.slice oa n cs] 26) := by
  go_enter Tryd.func25, Tryd.ntmps25
  go_wp2_with fail
  go_ret
  exact ⟨rfl, rfl⟩
/-- A ring's bytes. -/
def encF (n : Nat) (S : Nat → Nat → Nat) : Nat → Nat := fun i => if i = 0 then 107 else if i = 1 then 114 else if i = 2 then n else S ((i - 3) / 32) ((i - 3) % 32)
/-- What Encode answers. -/
def EncR (n : Nat) (N : Nat → Nat) (S : Nat → Nat → Nat) (w : World) (e : Ending) (w' : World) : Prop := Below w.heap.size w w' ∧
  ((e = .returned (.tuple #[.slice none 0 0, .iface 64 (.int .i64 1)]) ∧ ¬ OkT n N) ∨ (OkT n N ∧ ∃ v, e = .returned (.tuple #[v, .nilIface]) ∧ Grow w' w.heap.size v (3 + 32 * n) (encF n S)))
/-- Between two rounds: the row, the ring that the iterator reads. -/
structure EV (n cs : Nat) (oa : Option Addr) (S : Nat → Nat → Nat) (b5 Bn : Nat) (w : World) (i : Nat) (A : World) : Prop where
  row : ∃ v, Blk A b5 #[v] 33 ∧ Grow A w.heap.size v (3 + 32 * i) (encF n S) ∧ (∀ k, v.ownBlock = some k → k ≠ b5 ∧ k ≠ Bn)
  rng : Blk A Bn #[.slice oa n cs] 26
  bel : Below w.heap.size w A
theorem EV.drew {n cs b5 Bn i : Nat} {oa : Option Addr} {S : Nat → Nat → Nat} {w A : World} (h : EV n cs oa S b5 Bn w i A) : EV n cs oa S b5 Bn w i A.drew := ⟨h.row, h.rng, h.bel.drew⟩
theorem EV.turned {n cs b5 Bn i B : Nat} {oa : Option Addr} {S : Nat → Nat → Nat} {w A A' : World} (h : EV n cs oa S b5 Bn w i A) (hT : Turned B A A') (hB : w.heap.size ≤ B) : EV n cs oa S b5 Bn w i A' := by
  obtain ⟨v, h1, h2, h3⟩ := h.row
  exact ⟨⟨v, hT.blk h1, hT.grow h2, h3⟩, hT.blk h.rng, h.bel.trans (hT.below.mono hB)⟩
theorem EV.later {n cs b5 Bn i : Nat} {oa : Option Addr} {S : Nat → Nat → Nat} {w A A' : World} (h : EV n cs oa S b5 Bn w i A) (hb : Below A.heap.size A A') : EV n cs oa S b5 Bn w i A' := by
  obtain ⟨v, h1, h2, h3⟩ := h.row
  exact ⟨⟨v, Blk.below h1 hb (Blk.lt h1), h2.later hb, h3⟩, Blk.below h.rng hb (Blk.lt h.rng), h.bel.trans (hb.mono h.bel.size)⟩
theorem zip_two (p q : Tmp) (x y : Value) (T : Array Value) : ((#[p, q] : Array Tmp).zip #[x, y]).foldl (fun t (p, v) => t.setIfInBounds p v) T = (T.setIfInBounds p x).setIfInBounds q y := by simp
theorem enc_three {w1 : World} {n base : Nat} (S : Nat → Nat → Nat) (hb : base ≤ w1.heap.size) : Grow (w1.alloc (.cells #[.int .u8 107, .int .u8 114, .int .u8 (n : Int)] 5)) base (.slice (some ⟨w1.heap.size, 0, none⟩) 3 3) 3 (encF n S) :=
  ⟨rowC_len _ _, .inr ⟨w1.heap.size, 3, #[.int .u8 107, .int .u8 114, .int .u8 (n : Int)], rfl, hb, Blk.new w1 _ _, Nat.le_refl _, by unfold maxLen; omega, rfl, rfl⟩⟩
theorem enc_cat (n i : Nat) (S : Nat → Nat → Nat) : ∀ q, q < 3 + 32 * i + 32 → catF (3 + 32 * i) (encF n S) (S i) q = encF n S q := fun q hq => by
  unfold catF
  by_cases e : q < 3 + 32 * i
  · rw [if_pos e]
  · rw [if_neg e]
    unfold encF
    rw [if_neg (by omega), if_neg (by omega), if_neg (by omega), show (q - 3) / 32 = i by omega, show (q - 3) % 32 = q - (3 + 32 * i) by omega]
theorem Grow.someS {w : World} {base n : Nat} {v : Value} {f : Nat → Nat} (h : Grow w base v n f) (hn : 0 < n) : ∃ g cp, v = .slice (some ⟨g, 0, none⟩) n cp := by
  rcases h.2 with ⟨_, h0⟩ | ⟨g, cap, cur, hv, _⟩
  · omega
  · exact ⟨g, cap, hv⟩
set_option maxRecDepth 100000 in
set_option maxHeartbeats 8000000 in
theorem encode_any (n cs : Nat) (oa : Option Addr) (N : Nat → Nat) (S : Nat → Nat → Nat) (w : World) (hT : TL w oa n N S) (hN : ∀ i, i < n → N i < 4294967296) (hS : ∀ i j, i < n → j < 32 → S i j < 256) (hn : n < 10000) :
    Calls Tryd.prog 9 #[.agg #[.slice oa n cs]] w (EncR n N S w) := by
  obtain ⟨w0, hw0⟩ : ∃ q, w.alloc (.cells #[.slice oa n cs] 26) = q := ⟨_, rfl⟩
  have hb0 : Below w.heap.size w w0 := by rw [← hw0]; exact (Below.refl _ _).alloc (Nat.le_refl _) _
  have hR : Blk w0 w.heap.size #[.slice oa n cs] 26 := by rw [← hw0]; exact Blk.new _ _ _
  have HCK := Lib.hid (check_any n cs oa N S w0 (hT.later hb0) hN (by omega))
  have HB0 := Lib.hid hb0
  have HR0 := Lib.hid hR
  have HT := Lib.hid hT
  have HSS := Lib.hid hS
  have HNN := Lib.hid hn
  have c2 : w0.cell? ⟨w.heap.size, 0, none⟩ = some (.slice oa n cs) := by rw [Blk.cell hR]; rfl
  clear hb0 hR hT hN hS hn
  refine calls_marks Tryd.func9 rfl ?_
  simp only [Tryd.ntmps9, List.size_toArray, List.length_cons, List.length_nil, Nat.reduceAdd, Nat.reduceSub, Array.replicate_succ, Array.replicate_zero, List.push_toArray, List.append_toArray, List.nil_append, List.cons_append]
  go_wp2_with fail
  refine HCK.out.mono ?_
  rintro e w1 ⟨(⟨rfl, hok⟩ | ⟨rfl, hno⟩), hb1⟩
  · have HOK := Lib.hid hok
    have HR1 := Lib.hid (Blk.below HR0.out hb1 (Blk.lt HR0.out))
    have HB1 := Lib.hid (HB0.out.trans (hb1.mono HB0.out.size))
    have c2 : w1.cell? ⟨w.heap.size, 0, none⟩ = some (.slice oa n cs) := by rw [Blk.cell HR1.out]; rfl
    have k8 : IntKind.u8.wrap (n : Int) = (n : Int) := IntWalk.u8_in _ (by have := hok.2.1; omega)
    clear hb1 hok hw0 HR0 HCK
    go_upto_region 5 with fail
    obtain ⟨w3, hw3⟩ : ∃ q, (w1.alloc (.cells #[.int .u8 107, .int .u8 114, .int .u8 (n : Int)] 5)).alloc (.cells #[.slice (some ⟨w1.heap.size, 0, none⟩) 3 3] 33) = q := ⟨_, rfl⟩
    obtain ⟨b5, hb5⟩ : ∃ q, w1.heap.size + 1 = q := ⟨_, rfl⟩
    have hsz1 := HB1.out.size
    have hb3 : Below w1.heap.size w1 w3 := by rw [← hw3]; exact ((Below.refl _ _).alloc (Nat.le_refl _) _).alloc (by simp) _
    have hV3 : Blk w3 b5 #[.slice (some ⟨w1.heap.size, 0, none⟩) 3 3] 33 := by rw [← hw3, ← hb5]; simpa using Blk.new (w1.alloc _) #[.slice (some ⟨w1.heap.size, 0, none⟩) 3 3] 33
    have hG3 : Grow w3 w.heap.size (.slice (some ⟨w1.heap.size, 0, none⟩) 3 3) (3 + 32 * 0) (encF n S) := by rw [← hw3]; exact (enc_three S hsz1).later ((Below.refl _ _).alloc (Nat.le_refl _) _)
    have hl5 := Blk.lt hV3
    rw [hw3, hb5]
    have c2' : w3.cell? ⟨w.heap.size, 0, none⟩ = some (.slice oa n cs) := by rw [Blk.cell (Blk.below HR1.out hb3 (Blk.lt HR1.out))]; rfl
    obtain ⟨w4, hw4⟩ : ∃ q, w3.alloc (.cells #[.slice oa n cs] 26) = q := ⟨_, rfl⟩
    have hE4 : EV n cs oa S b5 w3.heap.size w 0 w4 := by
      have hb4 : Below w3.heap.size w3 w4 := by rw [← hw4]; exact (Below.refl _ _).alloc (Nat.le_refl _) _
      refine ⟨⟨_, Blk.below hV3 hb4 hl5, hG3.later hb4, fun k hk => ?_⟩, by rw [← hw4]; exact Blk.new _ _ _, (HB1.out.trans (hb3.mono hsz1)).trans (hb4.mono (Nat.le_trans hsz1 hb3.size))⟩
      have hk' : w1.heap.size = k := by simpa [Value.ownBlock] using hk
      omega
    have HE4 := Lib.hid hE4
    clear hb3 hV3 hG3 hE4 hw3
    go_wp2_with (go_at_call 25; refine (keys_any oa n cs _).mono ?_; rintro e w' ⟨rfl, rfl⟩; rw [hw4])
    refine wp_rangeS (gf := 32) (lb := #[.pointer (some ⟨w3.heap.size, 0, none⟩)]) (N := n) rfl (enters_of Tryd.func32 (by kernel_rfl) rfl) (keys_seq w3.heap.size oa n cs N S (by have := HNN.out; omega)) (fun _ => rfl)
      (EV n cs oa S b5 w3.heap.size w) (EV n cs oa S b5 w3.heap.size w) (fun _ _ => False) ?hG (fun i A h => h.drew) (fun c A h => h) (fun i A B _ h hr => h.later hr) (fun i A B _ hr => Keeps.of_below hr) (fun i A B hT h => h.turned hT ?hs1) (fun i A B hT h => h.turned hT ?hs2) (fun c A B _ h => h) ?h0
      (fun i a' A => ∃ b7, a' = { tmps := #[.agg #[.slice oa n cs], .pointer (some ⟨w.heap.size, 0, none⟩), .slice none 0 0, .nilIface, .nilIface, .pointer (some ⟨b5, 0, none⟩), undef, .pointer (some ⟨b7, 0, none⟩), .agg #[.slice oa n cs], .nilIface, .nilIface, .bool false, undef, .pointer (some ⟨w.heap.size, 0, none⟩), .slice oa n cs, .int .i64 (n : Int), .int .u8 (n : Int), .slice (some ⟨w1.heap.size, 0, none⟩) 3 3, .agg #[.slice oa n cs], .func (.func 32) #[] #[.pointer (some ⟨w3.heap.size, 0, none⟩)], .int .u32 (N i : Int), .agg (rowC 32 (S i)).toArray, undef, undef, undef, undef], defers := [] } ∧ EV n cs oa S b5 w3.heap.size w i A ∧ Blk A b7 (rowC 32 (S i)).toArray 22) ?hIt2 ?assign ?body ?done (fun D c W _ h _ => h.elim)
    case hG => exact fun i A h => ⟨h.rng, HT.out.later h.bel⟩
    case hs1 => exact HE4.out.bel.size
    case hs2 => exact HE4.out.bel.size
    case h0 => exact fun A hA _ => HE4.out.later hA
    case hIt2 => rintro i a A B hT ⟨b7, rfl, h1, h2⟩; exact ⟨b7, rfl, h1.turned hT HE4.out.bel.size, hT.blk h2⟩
    case assign =>
      intro l i W K _ hlt hE hK
      obtain ⟨F, hF⟩ : ∃ q, (rowC 32 (S i)).toArray = q := ⟨_, rfl⟩
      have HSZ : Hid (F.size = 32) := Lib.hid (by rw [← hF, List.size_toArray, rowC_len])
      have HON : Hid (F.all (·.oneCell') = true) := Lib.hid (by rw [← hF]; exact one32 _)
      have HIS : Hid ((Tryd.prog.info? 22).map (·.size) = some F.size) := Lib.hid (by rw [HSZ.out]; exact info_a32)
      rw [show EKr N S i = #[.int .u32 (N i : Int), .agg F] from by unfold EKr; rw [hF]]
      have HKK := Lib.hid hK
      have HEE := Lib.hid hE
      have HFF := Lib.hid hF
      obtain ⟨b7, hqb7⟩ : ∃ y, W.heap.size = y := ⟨_, rfl⟩
      obtain ⟨wz, hwz⟩ : ∃ y, W.alloc (.cells zeroA 22) = y := ⟨_, rfl⟩
      have hbz : Below W.heap.size W wz := by rw [← hwz]; exact (Below.refl _ _).alloc (Nat.le_refl _) _
      have hXz : Blk wz b7 zeroA 22 := by rw [← hwz, ← hqb7]; exact Blk.new _ _ _
      have HTZb7 : Hid (wz.there b7 0 F.size) := Lib.hid (hXz.there (by rw [zeroA_size, HSZ.out]; exact Nat.le_refl _))
      obtain ⟨w5, hw5⟩ : ∃ y, wz.setCells b7 0 F.toList = y := ⟨_, rfl⟩
      have hOz : Own b7 wz w5 := by rw [← hw5]; exact Own.setCells _ _ _
      have HBw5 : Hid (Below W.heap.size W w5) := Lib.hid (hbz.trans (hOz.below (by omega) hbz.size))
      have HNw5 : Hid (Blk w5 b7 F 22) := Lib.hid (by rw [← hw5]; exact Blk.setCells hXz F.toList (by rw [zeroA_size, Array.length_toList]; exact HSZ.out))
      have HWw5 := Lib.hid hw5
      clear hbz hXz hOz hw5
      clear hE hF hK
      refine region_wd (fun ⟨_, _, h⟩ => h) rfl ?_
      rw [zip_two]
      simp only [List.setIfInBounds_toArray, List.set_cons_zero, List.set_cons_succ]
      go_wp2_with (first | (refine wpList_zero rfl rfl zero_a32 ?_; rw [hwz, hqb7]; (try simp only [Act.put, List.setIfInBounds_toArray, List.set_cons_zero, List.set_cons_succ])) | (refine wpList_store_mid rfl 22 (.tmp 7) (.tmp 21) rfl b7 0 F rfl rfl HTZb7.out HIS.out HON.out ?_; rw [HWw5.out]))
      exact HKK.out _ _ (Keeps.of_below HBw5.out) ⟨b7, by rw [HFF.out]; rfl, HEE.out.later HBw5.out, by rw [HFF.out]; exact HNw5.out⟩
    case body =>
      rintro l i a W hl hi ⟨b7, rfl, hE, hB7⟩
      obtain ⟨v, hV0, hG0, hne⟩ := hE.row
      have hOB : Bytes W (some ⟨b7, 0, none⟩) 32 (S i) := RB.bytes (t := 22) hB7 (fun j hj => HSS.out i j hi hj)
      have hszW := hE.bel.size
      have HE := Lib.hid hE
      have HNE := Lib.hid hne
      have HI := Lib.hid (show i < n ∧ n < 10000 from ⟨hi, HNN.out⟩)
      clear hE hne hi hB7
      refine wpIn_block ?_
      refine regionD_wd (S := (fun _ => True)) (fun ⟨_, _, h⟩ => h) rfl (by kernel_rfl) trivial (fun hHeld => ?_)
      have HWD : Hid (W.drew = W.drew) := Lib.hid rfl
      refine wpAnyH_take (i := 1) (oi := { dst := some 23, op := Go.Op.slice 22 (Go.Operand.tmp 7) none none none, type := 33, pos := "keyring.go:90", after := #[], guard := none }) (v := ?_) rfl (by kernel_rfl) (by kernel_rfl) (by kernel_rfl) (fun _ _ _ h => h) (Or.inl ⟨by rfl, ?_⟩) (by assumption) ?_
      rotate_left
      · intro wS hSw
        (try dsimp only at hSw)
        go_simp
        (try with_reducible rfl)
      (try simp only [Act.put, List.setIfInBounds_toArray, List.set_cons_zero, List.set_cons_succ])
      refine wpAnyH_ready (rs := [0]) (by kernel_rfl) (by simp) ?_
      refine AllReadyH.cons (o := { dst := some 22, op := Go.Op.load 33 (Go.Operand.tmp 5), type := 33, pos := "keyring.go:90", after := #[], guard := none }) rfl (fun K hK => ?_) AllReadyH.nil
      (have c5 : W.cell? ⟨b5, 0, none⟩ = some v := (by rw [Blk.cell hV0]; rfl); have c5 : W.drew.cell? ⟨b5, 0, none⟩ = some v := c5; go_simp; clear c5; skip)
      refine hK.out _ _ ?_ (fun hHeld => ?_)
      · (try dsimp only)
        (try trivial)
      clear hK K
      (try simp only [Act.put, List.setIfInBounds_toArray, List.set_cons_zero, List.set_cons_succ])
      refine wpAnyH_ready (rs := [2]) (by kernel_rfl) (by simp) ?_
      refine AllReadyH.cons (o := { dst := some 24, op := Go.Op.call { callee := Go.Callee.builtin Go.Builtin.append, args := #[Go.Operand.tmp 22, Go.Operand.tmp 23], argTypes := #[33, 33] }, type := 33, pos := "keyring.go:90", after := #[{ on := 0, ground := Go.Ground.data }, { on := 1, ground := Go.Ground.data }], guard := none }) rfl (fun K hK => ?_) AllReadyH.nil
      (refine step_appO rfl (.tmp 22) (.tmp 23) rfl w.heap.size v (3 + 32 * i) 32 32 (some ⟨b7, 0, none⟩) (encF n S) (S i) W.drew rfl hG0 rfl (fun e => by cases e) hOB (by have := HI.out; omega) hszW ?_; intro v2 W2 hG2 hg2 hob2; have hg2 : W.grownBy W2 v.ownBlock := ⟨hg2.os, hg2.tape, hg2.output, hg2.size, hg2.block⟩)
      refine hK.out _ _ ?_ (fun hHeld => ?_)
      · (try dsimp only)
        (try trivial)
      clear hK K
      (try simp only [Act.put, List.setIfInBounds_toArray, List.set_cons_zero, List.set_cons_succ])
      refine wpAnyH_ready (rs := [3]) (by kernel_rfl) (by simp) ?_
      refine AllReadyH.cons (o := { dst := none, op := Go.Op.store 33 (Go.Operand.tmp 5) (Go.Operand.tmp 24), type := 0, pos := "keyring.go:90", after := #[{ on := 2, ground := Go.Ground.data }, { on := 2, ground := Go.Ground.chain }, { on := 0, ground := Go.Ground.phase }, { on := 1, ground := Go.Ground.phase }, { on := 2, ground := Go.Ground.phase }], guard := none }) rfl (fun K hK => ?_) AllReadyH.nil
      (obtain ⟨g2, cp2, hv2⟩ := hG2.someS (by omega); subst hv2; have hbW2 : Below w.heap.size W W2 := grow_bel hG0 hszW hg2; have hne5 : b5 < W.heap.size := Blk.lt hV0; have hV2 : Blk W2 b5 #[v] 33 := (hg2.block b5 hne5 (fun e => (HNE.out b5 e.symm).1 rfl)).trans hV0; have c5 : W2.cell? ⟨b5, 0, none⟩ = some v := (by rw [Blk.cell hV2]; rfl); have f5 : W2.frozen? ⟨b5, 0, none⟩ = false := Blk.free hV2 _; go_simp; clear c5 f5; skip)
      refine hK.out _ _ ?_ (fun hHeld => ?_)
      · (try dsimp only)
        (try trivial)
      clear hK K
      (try simp only [Act.put, List.setIfInBounds_toArray, List.set_cons_zero, List.set_cons_succ])
      refine wpAnyH_done (by kernel_rfl) ?_ _
      have hO := (Own.refl b5 W2).set 0 (.slice (some ⟨g2, 0, none⟩) (3 + 32 * i + 32) cp2)
      have hlR := Blk.lt HE.out.rng
      have hRg2 : Blk W2 w3.heap.size #[.slice oa n cs] 26 := (hg2.block _ hlR (fun e => (HNE.out _ e.symm).2 rfl)).trans HE.out.rng
      have hne2 : ∀ k, Value.ownBlock (.slice (some ⟨g2, 0, none⟩) (3 + 32 * i + 32) cp2) = some k → k ≠ b5 ∧ k ≠ w3.heap.size := fun k hk => by
        rcases hob2 with e | e
        · exact HNE.out k (e.symm.trans hk)
        · rw [e] at hk; cases hk
          exact ⟨fun e' => Nat.lt_irrefl _ (e' ▸ hne5), fun e' => Nat.lt_irrefl _ (e' ▸ hlR)⟩
      refine ⟨(keeps_app hG0 (Below.refl _ W) hg2).trans (Keeps.of_own hO hV2), ⟨⟨_, hV2.set 0 _, ?_, hne2⟩, hO.blk hRg2 (by omega), HE.out.bel.trans (hbW2.trans (hO.below ?_ (Nat.le_trans hszW hg2.size)))⟩⟩
      · exact ((hG2.congr (enc_cat n i S)).ownN hO fun k hk => (hne2 k hk).1)
      · have := HE4.out.bel.size; omega
    case done =>
      intro D A hD hP hK
      obtain ⟨v, hV, hG, hne⟩ := hP.row
      have c5 : A.cell? ⟨b5, 0, none⟩ = some v := by rw [Blk.cell hV]; rfl
      have HP := Lib.hid hP
      have HG := Lib.hid hG
      have HKD := Lib.hid hK
      have HD := Lib.hid hD
      clear hP hV hG hK hD hne
      go_wp2_with fail
      have hlt := lt_of_block HKD.out
      have hs4 := HE4.out.bel.size
      have hd := HD.out
      have hO : Own D A (A.putObj D (.deferred none)) := own_put A D _
      refine ⟨by simp, .inl ⟨_, _, rfl, run_takeDeferred HKD.out, ?_⟩⟩
      refine ⟨_, results_tmp2 rfl _ _ _, HP.out.bel.trans (hO.below (by omega) HP.out.bel.size), .inr ⟨HOK.out, v, rfl, HG.out.ownN hO fun k hk e => ?_⟩⟩
      subst e
      rcases HG.out.2 with ⟨e1, _⟩ | ⟨g', cap', cur, e1, _, h3, _⟩
      · rw [e1] at hk; cases hk
      · rw [e1] at hk; cases hk
        have := HKD.out
        rw [h3] at this; cases this
  · have HB1 := Lib.hid (HB0.out.trans (hb1.mono HB0.out.size))
    have HNO := Lib.hid hno
    clear hb1 hno hw0 HR0 HCK
    go_wp2_with fail
    exact ⟨_, results_tmp2 rfl _ _ _, HB1.out, .inl ⟨rfl, HNO.out⟩⟩
end Go.Proofs.YtloajfbehejehaaDoor
namespace Go.Proofs.YtloajfbehejehaaDoor
set_option linter.unusedVariables false
set_option linter.unusedSimpArgs false
open Go.RowKit
theorem res_cells {P : Program} {fn : Func} {p q : Tmp} {ty ty2 : TypeId} (h : fn.results = #[.cell p ty, .cell q ty2]) (tmps : Array Value) (w : World) (g g2 : Nat) (t : TypeId) (cs : Array Value) (v : Value) (fr : Nat × Nat) (d : TypeDesc)
    (hp : tmps.getD p undef = .pointer (some ⟨g, 0, none⟩)) (hg : w.heap[g]? = some (.cells cs t fr))
    (hu : P.underlying ty = some d) (hd : (match d with | .struct _ | .array _ _ => true | _ => false) = true) (hi : (P.info? ty).map (·.size) = some cs.size)
    (hq : tmps.getD q undef = .pointer (some ⟨g2, 0, none⟩)) (hl : (loadVar ty2 ⟨g2, 0, none⟩).run P w = .ok v w) :
    (results fn tmps).run P w = .ok (.tuple #[.agg cs, v]) w := by
  have hp' : tmps[p]?.getD undef = .pointer (some ⟨g, 0, none⟩) := by simpa using hp
  have hq' : tmps[q]?.getD undef = .pointer (some ⟨g2, 0, none⟩) := by simpa using hq
  simp [results, h, hp', hq', asAddr, run_loadVar_row w g t ty cs fr d hg hu hd hi, hl]
theorem load_err {w : World} {g : Nat} {v : Value} (h : Blk w g #[v] 29) : (loadVar 29 ⟨g, 0, none⟩).run Tryd.prog w = .ok v w := by
  have hc : w.cell? ⟨g, 0, none⟩ = some v := by rw [Blk.cell h]; rfl
  simp [loadVar, isAgg, underlying, Tryd.underlying29, hc, Result.andThen]
theorem find_res {tmps : Array Value} {w : World} {b4 b5 : Nat} {C : Array Value} {v : Value} (h4 : tmps.getD 4 undef = .pointer (some ⟨b4, 0, none⟩)) (h5 : tmps.getD 5 undef = .pointer (some ⟨b5, 0, none⟩)) (hB4 : Blk w b4 C 22) (hs : C.size = 32) (hB5 : Blk w b5 #[v] 29) :
    (results Tryd.f11 tmps).run Tryd.prog w = .ok (.tuple #[.agg C, v]) w :=
  res_cells Tryd.results11 tmps w b4 b5 22 C v (0, 0) _ h4 hB4 Tryd.underlying22 rfl (by rw [hs]; exact info_a32) h5 (load_err hB5)
/-- What Find answers. -/
def FindR (n : Nat) (N : Nat → Nat) (S : Nat → Nat → Nat) (t : Nat) (w : World) (e : Ending) (w' : World) : Prop := Below w.heap.size w w' ∧
  ((¬ OkT n N ∧ e = .returned (.tuple #[.agg zeroA, .iface 64 (.int .i64 1)])) ∨ (OkT n N ∧ 1 ≤ t ∧ t ≤ n ∧ e = .returned (.tuple #[.agg (rowC 32 (S (t - 1))).toArray, .nilIface])) ∨
   (OkT n N ∧ ¬ (1 ≤ t ∧ t ≤ n) ∧ e = .returned (.tuple #[.agg zeroA, .iface 64 (.int .i64 5)])))
theorem FindR.arg {n : Nat} {N : Nat → Nat} {S : Nat → Nat → Nat} {t : Nat} {w w' : World} (h : ¬ OkT n N) (hb : Below w.heap.size w w') : FindR n N S t w (.returned (.tuple #[.agg zeroA, .iface 64 (.int .i64 1)])) w' := ⟨hb, .inl ⟨h, rfl⟩⟩
theorem FindR.none {n : Nat} {N : Nat → Nat} {S : Nat → Nat → Nat} {t : Nat} {w w' : World} (h : OkT n N) (hn : ∀ j, j < n → N j ≠ t) (hb : Below w.heap.size w w') : FindR n N S t w (.returned (.tuple #[.agg zeroA, .iface 64 (.int .i64 5)])) w' :=
  ⟨hb, .inr (.inr ⟨h, fun ⟨h1, h2⟩ => hn (t - 1) (by omega) (by rw [h.2.2 _ (by omega)]; omega), rfl⟩)⟩
theorem FindR.some {n : Nat} {N : Nat → Nat} {S : Nat → Nat → Nat} {t i : Nat} {w w' : World} (h : OkT n N) (hi : i < n) (ht : N i = t) (hb : Below w.heap.size w w') : FindR n N S t w (.returned (.tuple #[.agg (rowC 32 (S i)).toArray, .nilIface])) w' :=
  ⟨hb, .inr (.inl ⟨h, by have := h.2.2 i hi; omega, by have := h.2.2 i hi; omega, by rw [show t - 1 = i by have := h.2.2 i hi; omega]⟩)⟩
/-- Between two rounds. -/
structure FV (n cs : Nat) (oa : Option Addr) (N : Nat → Nat) (t b3 b4 b5 Bn : Nat) (w : World) (i : Nat) (A : World) : Prop where
  tm : Blk A b3 #[.int .u32 (t : Int)] 39
  ky : Blk A b4 zeroA 22
  er : Blk A b5 #[.nilIface] 29
  rng : Blk A Bn #[.slice oa n cs] 26
  bel : Below w.heap.size w A
  no : ∀ j, j < i → N j ≠ t
theorem FV.drew {n cs t b3 b4 b5 Bn i : Nat} {oa : Option Addr} {N : Nat → Nat} {w A : World} (h : FV n cs oa N t b3 b4 b5 Bn w i A) : FV n cs oa N t b3 b4 b5 Bn w i A.drew := ⟨h.tm, h.ky, h.er, h.rng, h.bel.drew, h.no⟩
theorem FV.turned {n cs t b3 b4 b5 Bn i B : Nat} {oa : Option Addr} {N : Nat → Nat} {w A A' : World} (h : FV n cs oa N t b3 b4 b5 Bn w i A) (hT : Turned B A A') (hB : w.heap.size ≤ B) : FV n cs oa N t b3 b4 b5 Bn w i A' :=
  ⟨hT.blk h.tm, hT.blk h.ky, hT.blk h.er, hT.blk h.rng, h.bel.trans (hT.below.mono hB), h.no⟩
theorem FV.later {n cs t b3 b4 b5 Bn i : Nat} {oa : Option Addr} {N : Nat → Nat} {w A A' : World} (h : FV n cs oa N t b3 b4 b5 Bn w i A) (hb : Below A.heap.size A A') : FV n cs oa N t b3 b4 b5 Bn w i A' :=
  ⟨Blk.below h.tm hb (Blk.lt h.tm), Blk.below h.ky hb (Blk.lt h.ky), Blk.below h.er hb (Blk.lt h.er), Blk.below h.rng hb (Blk.lt h.rng), h.bel.trans (hb.mono h.bel.size), h.no⟩
/-- A round was left: the key is found. -/
structure FL (n : Nat) (N : Nat → Nat) (S : Nat → Nat → Nat) (t b4 b5 : Nat) (w A : World) : Prop where
  at_ : ∃ i, i < n ∧ N i = t ∧ Blk A b4 (rowC 32 (S i)).toArray 22
  er : Blk A b5 #[.nilIface] 29
  bel : Below w.heap.size w A
set_option maxRecDepth 100000 in
set_option maxHeartbeats 8000000 in
theorem find_any (n cs t : Nat) (oa : Option Addr) (N : Nat → Nat) (S : Nat → Nat → Nat) (w : World) (hT : TL w oa n N S) (hN : ∀ i, i < n → N i < 4294967296) (hn : n < 10000) :
    Calls Tryd.prog 11 #[.agg #[.slice oa n cs], .int .u32 (t : Int)] w (FindR n N S t w) := by
  obtain ⟨b3, hb3⟩ : ∃ q, w.heap.size + 1 = q := ⟨_, rfl⟩
  obtain ⟨b4, hb4⟩ : ∃ q, b3 + 1 = q := ⟨_, rfl⟩
  obtain ⟨b5, hb5⟩ : ∃ q, b4 + 1 = q := ⟨_, rfl⟩
  obtain ⟨w0, hw0⟩ : ∃ q, (((w.alloc (.cells #[.slice oa n cs] 26)).alloc (.cells #[.int .u32 (t : Int)] 39)).alloc (.cells zeroA 22)).alloc (.cells #[.nilIface] 29) = q := ⟨_, rfl⟩
  have hb0 : Below w.heap.size w w0 := by rw [← hw0]; exact ((((Below.refl _ _).alloc (Nat.le_refl _) _).alloc (by simp) _).alloc (by simp; omega) _).alloc (by simp; omega) _
  have hR : Blk w0 w.heap.size #[.slice oa n cs] 26 := by rw [← hw0]; exact (((Blk.new _ _ _).alloc _).alloc _).alloc _
  have h3 : Blk w0 b3 #[.int .u32 (t : Int)] 39 := by rw [← hw0, ← hb3]; have h9 := ((Blk.new (w.alloc (.cells #[.slice oa n cs] 26)) #[.int .u32 (t : Int)] 39).alloc (.cells zeroA 22)).alloc (.cells #[.nilIface] 29); simpa using h9
  have h4 : Blk w0 b4 zeroA 22 := by rw [← hw0, ← hb4, ← hb3]; have h9 := (Blk.new ((w.alloc (.cells #[.slice oa n cs] 26)).alloc (.cells #[.int .u32 (t : Int)] 39)) zeroA 22).alloc (.cells #[.nilIface] 29); simpa using h9
  have h5 : Blk w0 b5 #[.nilIface] 29 := by rw [← hw0, ← hb5, ← hb4, ← hb3]; have h9 := Blk.new (((w.alloc (.cells #[.slice oa n cs] 26)).alloc (.cells #[.int .u32 (t : Int)] 39)).alloc (.cells zeroA 22)) #[.nilIface] 29; simpa using h9
  have HCK := Lib.hid (check_any n cs oa N S w0 (hT.later hb0) hN (by omega))
  have HB0 := Lib.hid hb0
  have HR0 := Lib.hid hR
  have H30 := Lib.hid h3
  have H40 := Lib.hid h4
  have H50 := Lib.hid h5
  have HT := Lib.hid hT
  have HNN := Lib.hid hn
  have HGE := Lib.hid (show w.heap.size ≤ b4 ∧ w.heap.size ≤ b5 by omega)
  have HNE := Lib.hid (show b4 ≠ b5 ∧ b5 ≠ b4 by omega)
  have c2 : w0.cell? ⟨w.heap.size, 0, none⟩ = some (.slice oa n cs) := by rw [Blk.cell hR]; rfl
  clear hb0 hR hT hN hn h3 h4 h5
  refine calls_marks Tryd.func11 rfl ?_
  simp only [Tryd.ntmps11, List.size_toArray, List.length_cons, List.length_nil, Nat.reduceAdd, Nat.reduceSub, Array.replicate_succ, Array.replicate_zero, List.push_toArray, List.append_toArray, List.nil_append, List.cons_append]
  go_wp2_with (first | (refine wpList_zero rfl rfl zero_a32 ?_; (try simp only [Act.put, List.setIfInBounds_toArray, List.set_cons_zero, List.set_cons_succ])))
  refine HCK.out.mono ?_
  rintro e w1 ⟨(⟨rfl, hok⟩ | ⟨rfl, hno⟩), hb1⟩
  · have HOK := Lib.hid hok
    have HR1 := Lib.hid (Blk.below HR0.out hb1 (Blk.lt HR0.out))
    have HB1 := Lib.hid (HB0.out.trans (hb1.mono HB0.out.size))
    have c2 : w1.cell? ⟨w.heap.size, 0, none⟩ = some (.slice oa n cs) := by rw [Blk.cell HR1.out]; rfl
    obtain ⟨w4, hw4⟩ : ∃ q, w1.alloc (.cells #[.slice oa n cs] 26) = q := ⟨_, rfl⟩
    have HE4 : Hid (FV n cs oa N t b3 b4 b5 w1.heap.size w 0 w4) := Lib.hid (by
      have hb4 : Below w1.heap.size w1 w4 := by rw [← hw4]; exact (Below.refl _ _).alloc (Nat.le_refl _) _
      have hb4' := hb1.trans (hb4.mono hb1.size)
      exact ⟨Blk.below H30.out hb4' (Blk.lt H30.out), Blk.below H40.out hb4' (Blk.lt H40.out), Blk.below H50.out hb4' (Blk.lt H50.out), by rw [← hw4]; exact Blk.new _ _ _, HB1.out.trans (hb4.mono HB1.out.size), fun j hj => absurd hj (Nat.not_lt_zero _)⟩)
    clear hb1 hok hw0 HR0 HCK
    go_wp2_with (go_at_call 25; refine (keys_any oa n cs _).mono ?_; rintro e w' ⟨rfl, rfl⟩; rw [hw4])
    refine wp_rangeS (gf := 32) (lb := #[.pointer (some ⟨w1.heap.size, 0, none⟩)]) (N := n) rfl (enters_of Tryd.func32 (by kernel_rfl) rfl) (keys_seq w1.heap.size oa n cs N S (by have := HNN.out; omega)) (fun _ => rfl)
      (FV n cs oa N t b3 b4 b5 w1.heap.size w) (FV n cs oa N t b3 b4 b5 w1.heap.size w) (fun c A => c = .ret ∧ FL n N S t b4 b5 w A) ?hG (fun i A h => h.drew) (fun c A h => ⟨h.1, h.2.at_, h.2.er, h.2.bel.drew⟩) (fun i A B _ h hr => h.later hr) (fun i A B _ hr => Keeps.of_below hr) (fun i A B hT h => h.turned hT ?hs1) (fun i A B hT h => h.turned hT ?hs2) ?hIxt ?h0
      (fun i a' A => ∃ b8, a' = { tmps := #[.agg #[.slice oa n cs], .int .u32 (t : Int), .pointer (some ⟨w.heap.size, 0, none⟩), .pointer (some ⟨b3, 0, none⟩), .pointer (some ⟨b4, 0, none⟩), .pointer (some ⟨b5, 0, none⟩), .nilIface, .int .u32 (N i : Int), .pointer (some ⟨b8, 0, none⟩), .agg #[.slice oa n cs], .nilIface, .nilIface, .bool false, undef, undef, .agg #[.slice oa n cs], .func (.func 32) #[] #[.pointer (some ⟨w1.heap.size, 0, none⟩)], .int .u32 (N i : Int), .agg (rowC 32 (S i)).toArray, undef, undef, undef, undef, undef, undef], defers := [] } ∧ FV n cs oa N t b3 b4 b5 w1.heap.size w i A ∧ Blk A b8 (rowC 32 (S i)).toArray 22) ?hIt2 ?assign ?body ?done ?stop
    case hG => exact fun i A h => ⟨h.rng, HT.out.later h.bel⟩
    case hs1 => exact HE4.out.bel.size
    case hs2 => exact HE4.out.bel.size
    case hIxt => exact fun c A B hT h => ⟨h.1, by obtain ⟨i, h1, h2, h3⟩ := h.2.at_; exact ⟨i, h1, h2, hT.blk h3⟩, hT.blk h.2.er, h.2.bel.trans (hT.below.mono HE4.out.bel.size)⟩
    case h0 => exact fun A hA _ => HE4.out.later hA
    case hIt2 => rintro i a A B hT ⟨b8, rfl, h1, h2⟩; exact ⟨b8, rfl, h1.turned hT HE4.out.bel.size, hT.blk h2⟩
    case assign =>
      intro l i W K _ hlt hE hK
      obtain ⟨F, hF⟩ : ∃ q, (rowC 32 (S i)).toArray = q := ⟨_, rfl⟩
      have HSZ : Hid (F.size = 32) := Lib.hid (by rw [← hF, List.size_toArray, rowC_len])
      have HON : Hid (F.all (·.oneCell') = true) := Lib.hid (by rw [← hF]; exact one32 _)
      have HIS : Hid ((Tryd.prog.info? 22).map (·.size) = some F.size) := Lib.hid (by rw [HSZ.out]; exact info_a32)
      rw [show EKr N S i = #[.int .u32 (N i : Int), .agg F] from by unfold EKr; rw [hF]]
      have HKK := Lib.hid hK
      have HEE := Lib.hid hE
      have HFF := Lib.hid hF
      obtain ⟨b8, hqb8⟩ : ∃ y, W.heap.size = y := ⟨_, rfl⟩
      obtain ⟨wz, hwz⟩ : ∃ y, W.alloc (.cells zeroA 22) = y := ⟨_, rfl⟩
      have hbz : Below W.heap.size W wz := by rw [← hwz]; exact (Below.refl _ _).alloc (Nat.le_refl _) _
      have hXz : Blk wz b8 zeroA 22 := by rw [← hwz, ← hqb8]; exact Blk.new _ _ _
      have HTZb8 : Hid (wz.there b8 0 F.size) := Lib.hid (hXz.there (by rw [zeroA_size, HSZ.out]; exact Nat.le_refl _))
      obtain ⟨w5, hw5⟩ : ∃ y, wz.setCells b8 0 F.toList = y := ⟨_, rfl⟩
      have hOz : Own b8 wz w5 := by rw [← hw5]; exact Own.setCells _ _ _
      have HBw5 : Hid (Below W.heap.size W w5) := Lib.hid (hbz.trans (hOz.below (by omega) hbz.size))
      have HNw5 : Hid (Blk w5 b8 F 22) := Lib.hid (by rw [← hw5]; exact Blk.setCells hXz F.toList (by rw [zeroA_size, Array.length_toList]; exact HSZ.out))
      have HWw5 := Lib.hid hw5
      clear hbz hXz hOz hw5
      clear hE hF hK
      refine wpIn_seq ?_
      refine region_wd (fun ⟨_, _, h⟩ => h) rfl ?_
      rw [zip_two]
      simp only [List.setIfInBounds_toArray, List.set_cons_zero, List.set_cons_succ]
      go_wp2_with fail
      show Code.wpIn (Wd (some l)) 0 _ _ _ _ _
      refine region_wd (fun ⟨_, _, h⟩ => h) rfl ?_
      go_wp2_with (first | (refine wpList_zero rfl rfl zero_a32 ?_; rw [hwz, hqb8]; (try simp only [Act.put, List.setIfInBounds_toArray, List.set_cons_zero, List.set_cons_succ])) | (refine wpList_store_mid rfl 22 (.tmp 8) (.tmp 18) rfl b8 0 F rfl rfl HTZb8.out HIS.out HON.out ?_; rw [HWw5.out]))
      exact HKK.out _ _ (Keeps.of_below HBw5.out) ⟨b8, by rw [HFF.out]; rfl, HEE.out.later HBw5.out, by rw [HFF.out]; exact HNw5.out⟩
    case body =>
      rintro l i a W hl hi ⟨b8, rfl, hE, hB8⟩
      have c3 : W.cell? ⟨b3, 0, none⟩ = some (.int .u32 (t : Int)) := by rw [Blk.cell hE.tm]; rfl
      have HE := Lib.hid hE
      have HI := Lib.hid hi
      have HB8 := Lib.hid hB8
      have h4 := hE.ky
      have h5 := hE.er
      obtain ⟨ni, hni⟩ : ∃ q, N i = q := ⟨_, rfl⟩
      obtain ⟨F, hF⟩ : ∃ q, (rowC 32 (S i)).toArray = q := ⟨_, rfl⟩
      have HFF := Lib.hid hF
      have HNI := Lib.hid hni
      have HIF : Hid ((Tryd.prog.info? 22).map (·.size) = some F.size) := Lib.hid (by rw [← hF, List.size_toArray, rowC_len]; exact info_a32)
      have HSZ : Hid (F.size = 32) := Lib.hid (by rw [← hF, List.size_toArray, rowC_len])
      have HON : Hid (F.all (·.oneCell') = true) := Lib.hid (by rw [← hF]; exact one32 _)
      have HRF : Hid (W.rangeAt b8 0 F.toList) := Lib.hid (by rw [← hF]; exact hB8.rangeA)
      rw [hni, hF]
      clear hE hi hB8 hF hni
      refine wpIn_block ?_
      refine wpIn_seq ?_
      refine region_wd (fun ⟨_, _, h⟩ => h) rfl ?_
      by_cases he : ni = t
      · have d1 : (ni : Int) = (t : Int) := by omega
        have d3 : ((ni : Int) == (t : Int)) = true := by simp only [beq_iff_eq]; exact d1
        have d2 : decide ((ni : Int) = (t : Int)) = true := decide_eq_true d1
        have HEQ := Lib.hid he
        clear he
        go_wp2_with fail
        refine wpIn_cond_true rfl ?_
        refine wpIn_seq ?_
        refine region_wd (fun ⟨_, _, h⟩ => h) rfl ?_
        have hO1 : Own b4 W (W.setCells b4 0 (F).toList) := Own.setCells _ _ _
        have h41 : Blk (W.setCells b4 0 (F).toList) b4 (F) 22 := Blk.setCells h4 (F).toList (by rw [zeroA_size, Array.length_toList]; exact HSZ.out)
        have h51 := hO1.blk h5 HNE.out.2
        have hth : W.there b4 0 (F).size := h4.there (by rw [zeroA_size]; exact Nat.le_of_eq HSZ.out)
        obtain ⟨w7, hw7⟩ : ∃ q, W.setCells b4 0 (F).toList = q := ⟨_, rfl⟩
        rw [hw7] at hO1 h41 h51
        have c5 : w7.cell? ⟨b5, 0, none⟩ = some .nilIface := by rw [Blk.cell h51]; rfl
        have f5 : w7.frozen? ⟨b5, 0, none⟩ = false := Blk.free h51 0
        obtain ⟨w8, hw8⟩ : ∃ q, w7.setCell ⟨b5, 0, none⟩ (.nilIface) = q := ⟨_, rfl⟩
        have hO2 : Own b5 w7 w8 := by rw [← hw8]; exact (Own.refl _ _).set 0 _
        have h52 : Blk w8 b5 #[.nilIface] 29 := by rw [← hw8]; exact h51.set 0 _
        have h42 := hO2.blk h41 HNE.out.1
        have HX4 := Lib.hid h42
        have HX5 := Lib.hid h52
        have HXO := Lib.hid (And.intro hO1 hO2)
        have HXT := Lib.hid hth
        have HX7 := Lib.hid hw7
        have HX8 := Lib.hid hw8
        clear h42 h52 hO1 hO2 hth hw7 hw8 h41 h51 h4 h5
        go_wp2_with (first | (refine wpList_value rfl (exec_loadA (x := .tmp 8) (C := F) rfl rfl HRF.out Tryd.underlying22 rfl HIF.out) ?_) | (refine wpList_store_mid rfl 22 (.tmp 4) (.tmp 22) rfl b4 0 (F) rfl rfl HXT.out HIF.out HON.out ?_; rw [HX7.out]))
        refine wpIn_ret ?_
        rw [HX8.out]
        refine ⟨(Keeps.of_own HXO.out.1 HE.out.ky).trans (Keeps.of_own HXO.out.2 (HXO.out.1.blk HE.out.er HNE.out.2)), rfl, ⟨i, HI.out, by rw [HNI.out]; exact HEQ.out, by rw [HFF.out]; exact HX4.out⟩, HX5.out, HE.out.bel.trans ((HXO.out.1.below HGE.out.1 HE.out.bel.size).trans (HXO.out.2.below HGE.out.2 (Nat.le_trans HE.out.bel.size HXO.out.1.size)))⟩
      · have d1 : ¬ (ni : Int) = (t : Int) := by omega
        have d3 : ((ni : Int) == (t : Int)) = false := by simp only [beq_eq_false_iff_ne]; exact d1
        have d2 : decide ((ni : Int) = (t : Int)) = false := decide_eq_false d1
        have HEQ := Lib.hid he
        clear he h4 h5
        go_wp2_with fail
        refine wpIn_cond_false rfl ?_
        refine wpIn_skip ?_
        refine ⟨Keeps.refl _ _, HE.out.tm, HE.out.ky, HE.out.er, HE.out.rng, HE.out.bel, fun j hj => ?_⟩
        rcases Nat.lt_succ_iff_lt_or_eq.1 hj with h | h
        · exact HE.out.no j h
        · rw [h, HNI.out]; exact HEQ.out
    case done =>
      intro D W hD hP hK
      have h4 := hP.ky
      have h5 := hP.er
      have HP := Lib.hid hP
      have HKD := Lib.hid hK
      have HD := Lib.hid hD
      clear hP hK hD
      have hO1 : Own b4 W (W.setCells b4 0 (zeroA).toList) := Own.setCells _ _ _
      have h41 : Blk (W.setCells b4 0 (zeroA).toList) b4 (zeroA) 22 := Blk.setCells h4 (zeroA).toList (by rw [zeroA_size, Array.length_toList]; exact rfl)
      have h51 := hO1.blk h5 HNE.out.2
      have hth : W.there b4 0 (zeroA).size := h4.there (by rw [zeroA_size]; exact Nat.le_of_eq rfl)
      obtain ⟨w7, hw7⟩ : ∃ q, W.setCells b4 0 (zeroA).toList = q := ⟨_, rfl⟩
      rw [hw7] at hO1 h41 h51
      have c5 : w7.cell? ⟨b5, 0, none⟩ = some .nilIface := by rw [Blk.cell h51]; rfl
      have f5 : w7.frozen? ⟨b5, 0, none⟩ = false := Blk.free h51 0
      obtain ⟨w8, hw8⟩ : ∃ q, w7.setCell ⟨b5, 0, none⟩ (.iface 64 (.int .i64 5)) = q := ⟨_, rfl⟩
      have hO2 : Own b5 w7 w8 := by rw [← hw8]; exact (Own.refl _ _).set 0 _
      have h52 : Blk w8 b5 #[.iface 64 (.int .i64 5)] 29 := by rw [← hw8]; exact h51.set 0 _
      have h42 := hO2.blk h41 HNE.out.1
      have HX4 := Lib.hid h42
      have HX5 := Lib.hid h52
      have HXO := Lib.hid (And.intro hO1 hO2)
      have HXT := Lib.hid hth
      have HX7 := Lib.hid hw7
      have HX8 := Lib.hid hw8
      clear h42 h52 hO1 hO2 hth hw7 hw8 h41 h51 h4 h5
      go_wp2_with (first | (refine wpList_value rfl (exec_buildM (parts := #[]) (ps := #[]) (C := zeroA) rfl rfl build_z32) ?_) | (refine wpList_store_mid rfl 22 (.tmp 4) (.tmp 23) rfl b4 0 (zeroA) rfl rfl HXT.out (by rw [zeroA_size]; exact info_a32) (all_oneCell_toArray (rowC_one _ _)) ?_; rw [HX7.out]))
      rw [HX8.out]
      have hlt := lt_of_block HKD.out
      have hs4 := HE4.out.bel.size
      have hd := HD.out
      have hz := Blk.lt HE4.out.ky
      have hz5 := Blk.lt HE4.out.er
      have hs1 := HXO.out.1.size
      have hs2 := HXO.out.2.size
      have hO : Own D w8 (w8.putObj D (.deferred none)) := own_put w8 D _
      have hK8 : w8.heap[D]? = some (.deferred (some [])) := (HXO.out.2.block D (by omega) (by omega)).trans ((HXO.out.1.block D hlt (by omega)).trans HKD.out)
      refine ⟨by simp, .inl ⟨_, _, rfl, run_takeDeferred hK8, ?_⟩⟩
      exact ⟨_, find_res rfl rfl (hO.blk HX4.out (by omega)) rfl (hO.blk HX5.out (by omega)), FindR.none HOK.out HP.out.no (((HP.out.bel.trans (HXO.out.1.below HGE.out.1 HP.out.bel.size)).trans (HXO.out.2.below HGE.out.2 (Nat.le_trans HP.out.bel.size hs1))).trans (hO.below (by omega) (Nat.le_trans HP.out.bel.size (by omega))))⟩
    case stop =>
      rintro D c W hD ⟨rfl, hL⟩ hK
      obtain ⟨i, hi, ht, h4⟩ := hL.at_
      have hz := Blk.lt HE4.out.ky
      have hz5 := Blk.lt HE4.out.er
      have hs4 := HE4.out.bel.size
      have hlt := lt_of_block hK
      have hO : Own D W (W.putObj D (.deferred none)) := own_put W D _
      refine wp_ret ?_
      refine ⟨by simp, .inl ⟨_, _, rfl, run_takeDeferred hK, ?_⟩⟩
      exact ⟨_, find_res rfl rfl (hO.blk h4 (by omega)) (by rw [List.size_toArray, rowC_len]) (hO.blk hL.er (by omega)), FindR.some HOK.out hi ht (hL.bel.trans (hO.below (by omega) hL.bel.size))⟩
  · have HB1 := Lib.hid (HB0.out.trans (hb1.mono HB0.out.size))
    have HNO := Lib.hid hno
    have h4 := Blk.below H40.out hb1 (Blk.lt H40.out)
    have h5 := Blk.below H50.out hb1 (Blk.lt H50.out)
    clear hb1 hno hw0 HR0 HCK
    have hO1 : Own b4 w1 (w1.setCells b4 0 (zeroA).toList) := Own.setCells _ _ _
    have h41 : Blk (w1.setCells b4 0 (zeroA).toList) b4 (zeroA) 22 := Blk.setCells h4 (zeroA).toList (by rw [zeroA_size, Array.length_toList]; exact rfl)
    have h51 := hO1.blk h5 HNE.out.2
    have hth : w1.there b4 0 (zeroA).size := h4.there (by rw [zeroA_size]; exact Nat.le_of_eq rfl)
    obtain ⟨w7, hw7⟩ : ∃ q, w1.setCells b4 0 (zeroA).toList = q := ⟨_, rfl⟩
    rw [hw7] at hO1 h41 h51
    have c5 : w7.cell? ⟨b5, 0, none⟩ = some .nilIface := by rw [Blk.cell h51]; rfl
    have f5 : w7.frozen? ⟨b5, 0, none⟩ = false := Blk.free h51 0
    obtain ⟨w8, hw8⟩ : ∃ q, w7.setCell ⟨b5, 0, none⟩ (.iface 64 (.int .i64 1)) = q := ⟨_, rfl⟩
    have hO2 : Own b5 w7 w8 := by rw [← hw8]; exact (Own.refl _ _).set 0 _
    have h52 : Blk w8 b5 #[.iface 64 (.int .i64 1)] 29 := by rw [← hw8]; exact h51.set 0 _
    have h42 := hO2.blk h41 HNE.out.1
    have HX4 := Lib.hid h42
    have HX5 := Lib.hid h52
    have HXO := Lib.hid (And.intro hO1 hO2)
    have HXT := Lib.hid hth
    have HX7 := Lib.hid hw7
    have HX8 := Lib.hid hw8
    clear h42 h52 hO1 hO2 hth hw7 hw8 h41 h51 h4 h5
    go_wp2_with (first | (refine wpList_value rfl (exec_buildM (parts := #[]) (ps := #[]) (C := zeroA) rfl rfl build_z32) ?_) | (refine wpList_store_mid rfl 22 (.tmp 4) (.tmp 13) rfl b4 0 (zeroA) rfl rfl HXT.out (by rw [zeroA_size]; exact info_a32) (all_oneCell_toArray (rowC_one _ _)) ?_; rw [HX7.out]))
    rw [HX8.out]
    exact ⟨_, find_res rfl rfl HX4.out rfl HX5.out, FindR.arg HNO.out ((HB1.out.trans (HXO.out.1.below HGE.out.1 HB1.out.size)).trans (HXO.out.2.below HGE.out.2 (Nat.le_trans HB1.out.size HXO.out.1.size)))⟩
end Go.Proofs.YtloajfbehejehaaDoor
namespace Go.Proofs.YtloajfbehejehaaDoor
set_option linter.unusedVariables false
set_option linter.unusedSimpArgs false
open Go.RowKit
theorem exec_s2a22 {o : Oper} {a : Act} {w : World} {x : Operand} {oa : Option Addr} {len cap : Nat} (ho : o.op = .sliceToArrayPointer 22 x) (hx : a.eval x = .slice oa len cap) (hn : 32 ≤ len) : (execOp a.eval o).run Tryd.prog w = .ok (.value (.pointer oa)) w := by
  unfold execOp
  simp only [ho, hx, Sem.run_bind, run_arrayAt w 22 5 32 oa len cap Tryd.underlying22 hn, Result.andThen_ok]
  rfl
/-- Bytes that are a ring's. -/
def IsRing (m : Nat) (B : Nat → Nat) : Prop := 3 ≤ m ∧ B 0 = 107 ∧ B 1 = 114 ∧ 1 ≤ B 2 ∧ B 2 ≤ 16 ∧ m = 3 + 32 * B 2
/-- What Decode answers. -/
def DecR (m : Nat) (B : Nat → Nat) (w : World) (e : Ending) (w' : World) : Prop := Below w.heap.size w w' ∧
  ((e = .returned (.tuple #[.agg #[.slice none 0 0], .iface 64 (.int .i64 4)]) ∧ ¬ IsRing m B) ∨
   (IsRing m B ∧ ∃ o c, e = .returned (.tuple #[.agg #[.slice o (B 2) c], .nilIface]) ∧ TL w' o (B 2) (fun i => i + 1) (fun i j => B (3 + 32 * i + j))))
theorem DecR.no {m : Nat} {B : Nat → Nat} {w w' : World} (h : ¬ IsRing m B) (hb : Below w.heap.size w w') : DecR m B w (.returned (.tuple #[.agg #[.slice none 0 0], .iface 64 (.int .i64 4)])) w' := ⟨hb, .inl ⟨rfl, h⟩⟩
theorem DecR.ok {m : Nat} {B : Nat → Nat} {w w' : World} {o : Option Addr} {c : Nat} (h : IsRing m B) (hb : Below w.heap.size w w') (hT : TL w' o (B 2) (fun i => i + 1) (fun i j => B (3 + 32 * i + j))) : DecR m B w (.returned (.tuple #[.agg #[.slice o (B 2) c], .nilIface])) w' := ⟨hb, .inr ⟨h, o, c, rfl, hT⟩⟩
/-- While the terms come. -/
structure DV (B : Nat → Nat) (b2 b5 base : Nat) (w : World) (i : Nat) (v r : Value) (A : World) : Prop where
  row : TO 55 A base v i (fun i => i + 1) (fun i j => B (3 + 32 * i + j))
  c5 : Blk A b5 #[r] 26
  c2 : Blk A b2 #[.slice none 0 0] 26
  bel : Below w.heap.size w A
  sz : base ≤ A.heap.size
theorem DV.later {B : Nat → Nat} {b2 b5 base i : Nat} {v r : Value} {w A A' : World} (h : DV B b2 b5 base w i v r A) (hb : Below A.heap.size A A') : DV B b2 b5 base w i v r A' :=
  ⟨h.row.later hb, Blk.below h.c5 hb (Blk.lt h.c5), Blk.below h.c2 hb (Blk.lt h.c2), h.bel.trans (hb.mono h.bel.size), Nat.le_trans h.sz hb.size⟩
theorem DV.grew {B : Nat → Nat} {b2 b5 base i i' : Nat} {v v' r : Value} {w A A' : World} (h : DV B b2 b5 base w i v r A) (hB : w.heap.size ≤ b2 ∧ b2 < b5 ∧ b5 < base) (hg : A.grownBy A' v.ownBlock) (hb : Below base A A') (hr : TO 55 A' base v' i' (fun i => i + 1) (fun i j => B (3 + 32 * i + j))) : DV B b2 b5 base w i' v' r A' :=
  ⟨hr, Blk.below h.c5 hb hB.2.2, Blk.below h.c2 hb (by omega), h.bel.trans (hb.mono (by omega)), Nat.le_trans h.sz hg.size⟩
theorem TO.own {T b base n : Nat} {v : Value} {N : Nat → Nat} {S : Nat → Nat → Nat} {w w' : World} (h : TO T w base v n N S) (hO : Own b w w') (hb : b < base) : TO T w' base v n N S :=
  owns_own h hO hb
theorem DV.put {B : Nat → Nat} {b2 b5 base i : Nat} {v r : Value} {w A : World} (h : DV B b2 b5 base w i v r A) (hB : w.heap.size ≤ b2 ∧ b2 < b5 ∧ b5 < base) : DV B b2 b5 base w i v v (A.setCell ⟨b5, 0, none⟩ v) := by
  have hO := (Own.refl b5 A).set 0 v
  exact ⟨h.row.own hO hB.2.2, h.c5.set 0 v, hO.blk h.c2 (by omega), h.bel.trans (hO.below (by omega) h.bel.size), Nat.le_trans h.sz hO.size⟩
set_option maxRecDepth 100000 in
set_option maxHeartbeats 8000000 in
theorem decode_any (m cb : Nat) (ob : Option Addr) (B : Nat → Nat) (w : World) (hB : Bytes w ob m B) (hm : m ≤ cb) (hs : m < 1000000) :
    Calls Tryd.prog 10 #[.slice ob m cb] w (DecR m B w) := by
  obtain ⟨b2, hb2⟩ : ∃ q, w.heap.size = q := ⟨_, rfl⟩
  obtain ⟨w0, hw0⟩ : ∃ q, w.alloc (.cells #[.slice none 0 0] 26) = q := ⟨_, rfl⟩
  have hb0 : Below w.heap.size w w0 := by rw [← hw0]; exact (Below.refl _ _).alloc (Nat.le_refl _) _
  have hZ : Blk w0 b2 #[.slice none 0 0] 26 := by rw [← hw0, ← hb2]; exact Blk.new _ _ _
  have c2 : w0.cell? ⟨b2, 0, none⟩ = some (.slice none 0 0) := by rw [Blk.cell hZ]; rfl
  have f2 : w0.frozen? ⟨b2, 0, none⟩ = false := Blk.free hZ 0
  have HX : Hid (Blk (w0.setCell ⟨b2, 0, none⟩ (.slice none 0 0)) b2 #[.slice none 0 0] 26) := Lib.hid (hZ.set 0 _)
  have HBX : Hid (Below w.heap.size w (w0.setCell ⟨b2, 0, none⟩ (.slice none 0 0))) := Lib.hid (hb0.trans (((Own.refl b2 w0).set 0 _).below (Nat.le_of_eq hb2) hb0.size))
  have HZ := Lib.hid hZ
  have HB0 := Lib.hid hb0
  have HW2 := Lib.hid hb2
  have HBW := Lib.hid hB
  have hB0 := hB.later hb0
  have HBY := Lib.hid hB0
  clear hb0 hZ hB
  by_cases g : m < 3
  · have hno : ¬ IsRing m B := fun h => by have := h.1; omega
    have g1 : (m : Int) < (3 : Int) := by omega
    have g2 : decide ((m : Int) < (3 : Int)) = true := decide_eq_true g1
    have g7 : m < 3 := by omega
    have g8 : decide (m < 3) = true := decide_eq_true g7
    clear hB0 hs
    go_enter Tryd.func10, Tryd.ntmps10
    go_wp2_with fail
    refine bodyPost_ret (v := .tuple #[.agg #[.slice none 0 0], .iface 64 (.int .i64 4)]) ?_ rfl (DecR.no hno HBX.out)
    exact results_cell_tmp1 (q := 3) Tryd.results10 _ _ b2 26 #[.slice none 0 0] (0, 0) _ rfl HX.out Tryd.underlying26 rfl (info_rg _)
  obtain ⟨_, bo, oo, e, x0⟩ := hB0 0 (by omega)
  subst e
  rw [Nat.add_zero] at x0
  obtain ⟨l1, _, _, e, x1⟩ := hB0 1 (by omega)
  cases e
  obtain ⟨l2, _, _, e, x2⟩ := hB0 2 (by omega)
  cases e
  obtain ⟨a0, ha0⟩ : ∃ q, B 0 = q := ⟨_, rfl⟩
  obtain ⟨a1, ha1⟩ : ∃ q, B 1 = q := ⟨_, rfl⟩
  obtain ⟨a2, ha2⟩ : ∃ q, B 2 = q := ⟨_, rfl⟩
  rw [ha0] at x0
  rw [ha1] at x1 l1
  rw [ha2] at x2 l2
  have HA := Lib.hid (And.intro ha0 (And.intro ha1 ha2))
  have g1 : ¬ (m : Int) < (3 : Int) := by omega
  have g2 : decide ((m : Int) < (3 : Int)) = false := decide_eq_false g1
  have g7 : ¬ m < 3 := by omega
  have g8 : decide (m < 3) = false := decide_eq_false g7
  have i0 : (0 : Int) < (m : Int) := by omega
  have i1 : (1 : Int) < (m : Int) := by omega
  have i2 : (2 : Int) < (m : Int) := by omega
  have n0 : 0 < m := by omega
  have n1 : 1 < m := by omega
  have n2 : 2 < m := by omega
  have HL := Lib.hid (And.intro l1 l2)
  have HG := Lib.hid (show 3 ≤ m by omega)
  clear hB0 ha0 ha1 ha2 hs
  by_cases k0 : a0 = 107
  case neg =>
    have hno : ¬ IsRing m B := fun h => k0 (by have := h.2.1; have := HA.out; omega)
    have u1 : ¬ (a0 : Int) = 107 := by omega
    have u2 : decide ((a0 : Int) = 107) = false := decide_eq_false u1
    have u3 : ((a0 : Int) == 107) = false := by simp only [beq_eq_false_iff_ne]; exact u1
    have u4 : decide (a0 = 107) = false := decide_eq_false (by omega)
    have u5 : (a0 == 107) = false := by simp only [beq_eq_false_iff_ne]; omega
    have u6 : ¬ a0 = 107 := by omega
    go_enter Tryd.func10, Tryd.ntmps10
    go_wp2_with fail
    refine bodyPost_ret (v := .tuple #[.agg #[.slice none 0 0], .iface 64 (.int .i64 4)]) ?_ rfl (DecR.no hno HBX.out)
    exact results_cell_tmp1 (q := 3) Tryd.results10 _ _ b2 26 #[.slice none 0 0] (0, 0) _ rfl HX.out Tryd.underlying26 rfl (info_rg _)
  have u1 : (a0 : Int) = 107 := by omega
  have u2 : decide ((a0 : Int) = 107) = true := decide_eq_true u1
  have u3 : ((a0 : Int) == 107) = true := by simp only [beq_iff_eq]; exact u1
  have u4 : decide (a0 = 107) = true := decide_eq_true (by omega)
  have u5 : (a0 == 107) = true := by simp only [beq_iff_eq]; omega
  by_cases k1 : a1 = 114
  case neg =>
    have hno : ¬ IsRing m B := fun h => k1 (by have := h.2.2.1; have := HA.out; omega)
    have v1 : ¬ (a1 : Int) = 114 := by omega
    have v2 : decide ((a1 : Int) = 114) = false := decide_eq_false v1
    have v3 : ((a1 : Int) == 114) = false := by simp only [beq_eq_false_iff_ne]; exact v1
    have v4 : decide (a1 = 114) = false := decide_eq_false (by omega)
    have v5 : (a1 == 114) = false := by simp only [beq_eq_false_iff_ne]; omega
    have v6 : ¬ a1 = 114 := by omega
    go_enter Tryd.func10, Tryd.ntmps10
    go_wp2_with fail
    refine bodyPost_ret (v := .tuple #[.agg #[.slice none 0 0], .iface 64 (.int .i64 4)]) ?_ rfl (DecR.no hno HBX.out)
    exact results_cell_tmp1 (q := 3) Tryd.results10 _ _ b2 26 #[.slice none 0 0] (0, 0) _ rfl HX.out Tryd.underlying26 rfl (info_rg _)
  have v1 : (a1 : Int) = 114 := by omega
  have v2 : decide ((a1 : Int) = 114) = true := decide_eq_true v1
  have v3 : ((a1 : Int) == 114) = true := by simp only [beq_iff_eq]; exact v1
  have v4 : decide (a1 = 114) = true := decide_eq_true (by omega)
  have v5 : (a1 == 114) = true := by simp only [beq_iff_eq]; omega
  have kc : IntKind.i64.wrap (a2 : Int) = (a2 : Int) := IntWalk.i64_in _ (by have := HL.out; omega)
  by_cases k2 : a2 < 1
  case pos =>
    have hno : ¬ IsRing m B := fun h => by have := h.2.2.2.1; have := HA.out; omega
    have p1 : (a2 : Int) < (1 : Int) := by omega
    have p2 : decide ((a2 : Int) < (1 : Int)) = true := decide_eq_true p1
    have p7 : a2 < 1 := by omega
    have p8 : decide (a2 < 1) = true := decide_eq_true p7
    go_enter Tryd.func10, Tryd.ntmps10
    go_wp2_with fail
    refine bodyPost_ret (v := .tuple #[.agg #[.slice none 0 0], .iface 64 (.int .i64 4)]) ?_ rfl (DecR.no hno HBX.out)
    exact results_cell_tmp1 (q := 3) Tryd.results10 _ _ b2 26 #[.slice none 0 0] (0, 0) _ rfl HX.out Tryd.underlying26 rfl (info_rg _)
  have p1 : ¬ (a2 : Int) < (1 : Int) := by omega
  have p2 : decide ((a2 : Int) < (1 : Int)) = false := decide_eq_false p1
  have p7 : ¬ a2 < 1 := by omega
  have p8 : decide (a2 < 1) = false := decide_eq_false p7
  by_cases k3 : 16 < a2
  case pos =>
    have hno : ¬ IsRing m B := fun h => by have := h.2.2.2.2.1; have := HA.out; omega
    have q1 : (16 : Int) < (a2 : Int) := by omega
    have q2 : decide ((16 : Int) < (a2 : Int)) = true := decide_eq_true q1
    have q7 : 16 < a2 := by omega
    have q8 : decide (16 < a2) = true := decide_eq_true q7
    go_enter Tryd.func10, Tryd.ntmps10
    go_wp2_with fail
    refine bodyPost_ret (v := .tuple #[.agg #[.slice none 0 0], .iface 64 (.int .i64 4)]) ?_ rfl (DecR.no hno HBX.out)
    exact results_cell_tmp1 (q := 3) Tryd.results10 _ _ b2 26 #[.slice none 0 0] (0, 0) _ rfl HX.out Tryd.underlying26 rfl (info_rg _)
  have q1 : ¬ (16 : Int) < (a2 : Int) := by omega
  have q2 : decide ((16 : Int) < (a2 : Int)) = false := decide_eq_false q1
  have q7 : ¬ 16 < a2 := by omega
  have q8 : decide (16 < a2) = false := decide_eq_false q7
  obtain ⟨M32, hM32⟩ : ∃ q, a2 * 32 = q := ⟨_, rfl⟩
  obtain ⟨LL, hLL⟩ : ∃ q, 3 + M32 = q := ⟨_, rfl⟩
  have km1 : (a2 : Int) * 32 = (M32 : Int) := by omega
  have km2 : IntKind.i64.wrap (M32 : Int) = (M32 : Int) := IntWalk.i64_in _ (by omega)
  have km3 : (3 : Int) + (M32 : Int) = (LL : Int) := by omega
  have km4 : IntKind.i64.wrap (LL : Int) = (LL : Int) := IntWalk.i64_in _ (by omega)
  by_cases k4 : m = LL
  case neg =>
    have hno : ¬ IsRing m B := fun h => k4 (by have := h.2.2.2.2.2; have := HA.out; omega)
    have r1 : ¬ (m : Int) = LL := by omega
    have r2 : decide ((m : Int) = LL) = false := decide_eq_false r1
    have r3 : ((m : Int) == LL) = false := by simp only [beq_eq_false_iff_ne]; exact r1
    have r4 : decide (m = LL) = false := decide_eq_false (by omega)
    have r5 : (m == LL) = false := by simp only [beq_eq_false_iff_ne]; omega
    have r6 : ¬ m = LL := by omega
    go_enter Tryd.func10, Tryd.ntmps10
    go_wp2_with fail
    refine bodyPost_ret (v := .tuple #[.agg #[.slice none 0 0], .iface 64 (.int .i64 4)]) ?_ rfl (DecR.no hno HBX.out)
    exact results_cell_tmp1 (q := 3) Tryd.results10 _ _ b2 26 #[.slice none 0 0] (0, 0) _ rfl HX.out Tryd.underlying26 rfl (info_rg _)
  have r1 : (m : Int) = LL := by omega
  have r2 : decide ((m : Int) = LL) = true := decide_eq_true r1
  have r3 : ((m : Int) == LL) = true := by simp only [beq_iff_eq]; exact r1
  have r4 : decide (m = LL) = true := decide_eq_true (by omega)
  have r5 : (m == LL) = true := by simp only [beq_iff_eq]; omega
  have s1 : ¬ (LL : Int) < (3 : Int) := by omega
  have s2 : decide ((LL : Int) < (3 : Int)) = false := decide_eq_false s1
  have s7 : ¬ LL < 3 := by omega
  have s8 : decide (LL < 3) = false := decide_eq_false s7
  have HOK : Hid (IsRing m B) := Lib.hid ⟨HG.out, by have := HA.out; omega, by have := HA.out; omega, by have := HA.out; omega, by have := HA.out; omega, by have := HA.out; omega⟩
  have HN := Lib.hid (show 1 ≤ a2 ∧ a2 ≤ 16 ∧ m = 3 + 32 * a2 ∧ m ≤ cb by omega)
  clear k0 k1 k2 k3 k4 hM32 hLL hm
  go_enter Tryd.func10, Tryd.ntmps10
  go_upto_region 6 with fail
  clear c2 f2 x0 x1 x2 i0 i1 i2 n0 n1 n2 kc km1 km2 km3 km4 r1 r2 r3 r4 r5 s1 s2 s7 s8 g1 g2 g7 g8 u1 u2 u3 u4 u5 v1 v2 v3 v4 v5 p1 p2 p7 p8 q1 q2 q7 q8
  obtain ⟨b5, hb5⟩ : ∃ q, w0.heap.size = q := ⟨_, rfl⟩
  obtain ⟨w1, hw1⟩ : ∃ q, w0.alloc (.cells #[.slice none 0 0] 26) = q := ⟨_, rfl⟩
  obtain ⟨base, hbase⟩ : ∃ q, w1.heap.size = q := ⟨_, rfl⟩
  have hb01 : Below w0.heap.size w0 w1 := by rw [← hw1]; exact (Below.refl _ _).alloc (Nat.le_refl _) _
  have hD1 : DV B b2 b5 base w 0 (.slice none 0 0) (.slice none 0 0) w1 := ⟨TO.nil _ _ _ _ _, by rw [← hw1, ← hb5]; exact Blk.new _ _ _, Blk.below HZ.out hb01 (Blk.lt HZ.out), HB0.out.trans (hb01.mono HB0.out.size), Nat.le_of_eq hbase.symm⟩
  have HBB := Lib.hid (show w.heap.size ≤ b2 ∧ b2 < b5 ∧ b5 < base from ⟨Nat.le_of_eq HW2.out, by have := Blk.lt HZ.out; omega, by have := Blk.lt hD1.c5; omega⟩)
  have HD1 := Lib.hid hD1
  clear hb01 hD1 hw0 hb2 hbase
  go_wp2_with fail
  go_loopw [46] (fun y wr => ∃ (i : Nat) (v : Value), i ≤ a2 ∧ y = .int .i64 (i : Int) ∧ DV B b2 b5 base w i v v wr) (fun y _ => a2 - (intOf y).toNat)
  case atStart => exact ⟨0, _, Nat.zero_le _, rfl, HD1.out⟩
  case round =>
    obtain ⟨i, v, hi, rfl, hDwr⟩ := hrel
    have HDW := Lib.hid hDwr
    by_cases hlt : i < a2
    · have HI := Lib.hid (show i < a2 ∧ i < 16 by have := HN.out; omega)
      have za1 : (i : Int) < (a2 : Int) := by omega
      have za2 : decide ((i : Int) < (a2 : Int)) = true := decide_eq_true za1
      have za7 : i < a2 := by omega
      have za8 : decide (i < a2) = true := decide_eq_true za7
      obtain ⟨i32, hi32⟩ : ∃ q, i * 32 = q := ⟨_, rfl⟩
      obtain ⟨at0, hat⟩ : ∃ q, 3 + i32 = q := ⟨_, rfl⟩
      obtain ⟨i1, hi1⟩ : ∃ q, i + 1 = q := ⟨_, rfl⟩
      obtain ⟨en, hen⟩ : ∃ q, at0 + 32 = q := ⟨_, rfl⟩
      have k1 : (i : Int) * 32 = (i32 : Int) := by omega
      have k2 : IntKind.i64.wrap (i32 : Int) = (i32 : Int) := IntWalk.i64_in _ (by have := HN.out; omega)
      have k3 : (3 : Int) + (i32 : Int) = (at0 : Int) := by omega
      have k4 : IntKind.i64.wrap (at0 : Int) = (at0 : Int) := IntWalk.i64_in _ (by have := HN.out; omega)
      have k5 : (i : Int) + 1 = (i1 : Int) := by omega
      have k6 : IntKind.i64.wrap (i1 : Int) = (i1 : Int) := IntWalk.i64_in _ (by have := HN.out; omega)
      have k7 : IntKind.u32.wrap (i1 : Int) = (i1 : Int) := IntWalk.u32_in _ (by have := HN.out; omega)
      have k8 : (at0 : Int) + 32 = (en : Int) := by omega
      have k9 : IntKind.i64.wrap (en : Int) = (en : Int) := IntWalk.i64_in _ (by have := HN.out; omega)
      have e1 : (0 : Int) ≤ (at0 : Int) := by omega
      have e2 : (at0 : Int) ≤ (en : Int) := by omega
      have e3 : (en : Int) ≤ (cb : Int) := by have := HN.out; omega
      have e4 : ¬ cb = at0 := by have := HN.out; omega
      have e5 : en - at0 = 32 := by omega
      obtain ⟨Ky, hKy⟩ : ∃ q, (fun j => B (at0 + j)) = q := ⟨_, rfl⟩
      obtain ⟨F, hF⟩ : ∃ q, (rowC 32 Ky).toArray = q := ⟨_, rfl⟩
      obtain ⟨C, hC⟩ : ∃ q, (tmL i1 Ky).toArray = q := ⟨_, rfl⟩
      have HCC := Lib.hid hC
      have HIF : Hid ((Tryd.prog.info? 22).map (·.size) = some F.size) := Lib.hid (by rw [← hF, List.size_toArray, rowC_len]; exact info_a32)
      have HBT : Hid (∀ w, (Instr.build 55 #[(0, .int .u32 (i1 : Int)), (1, .agg F)]).run Tryd.prog w = .ok (.agg C) w) := Lib.hid (by rw [← hF, ← hC]; exact build_t1 i1 Ky)
      have HBS : Hid (∀ w, (Instr.buildSlice 24 1 #[(0, .agg C)]).run Tryd.prog w = .ok (.slice (some ⟨w.heap.size, 0, none⟩) 1 1) (w.alloc (.cells C 55))) := Lib.hid (by rw [← hC]; exact bs_t1 i1 Ky)
      have HRF : Hid (∀ A, Below w.heap.size w A → A.rangeAt bo (oo + at0) F.toList) := Lib.hid fun A hA j u hu => by
        rw [← hF] at hu
        have hj : j < 32 := by have := (List.getElem?_eq_some_iff.1 hu).1; simpa [rowC_len] using this
        have hu' : (rowC 32 Ky)[j]? = some u := by simpa using hu
        rw [rowC_get Ky hj] at hu'
        cases hu'
        obtain ⟨_, _, _, e, hc⟩ := (HBW.out.later hA) (at0 + j) (by have := HN.out; omega)
        cases e
        rw [← hKy, Nat.add_assoc]; exact hc
      have HCG : Hid (∀ (A : World) (v' : Value), TO 55 A base v' (i + 1) (catN i (fun i => i + 1) (fun _ => i1)) (catT i (fun i j => B (3 + 32 * i + j)) (fun _ => Ky)) → TO 55 A base v' (i + 1) (fun i => i + 1) (fun i j => B (3 + 32 * i + j))) := Lib.hid fun A v' h => h.congr fun q hq => by
        unfold catN catT
        by_cases e : q < i
        · rw [if_pos e, if_pos e]; exact ⟨rfl, rfl⟩
        · obtain rfl : q = i := by omega
          rw [if_neg e, if_neg e]
          exact ⟨by show i1 = q + 1; omega, by rw [← hKy]; funext j; rw [show at0 = 3 + 32 * q by omega]⟩
      clear hi32 hat hi1 hen hKy hF hC hlt hi hDwr
      go_upto_region 11 with fail
      have hDW0 : DV B b2 b5 base w i v v wr.drew := HDW.out.later (Below.refl _ _).drew
      have hSW0 : wr.drew.rangeAt bo (oo + at0) F.toList := HRF.out _ hDW0.bel
      refine wp_region_held_drew (S := (fun A => A.rangeAt bo (oo + at0) F.toList)) (by kernel_rfl) ?_ (fun hHeld => ?_)
      · (try dsimp only)
        (first | assumption | (dsimp only; assumption))
      generalize wr.drew = W0 at *
      refine wpAnyH_take (i := 0) (oi := { dst := some 52, op := Go.Op.fieldAddr 26 (Go.Operand.tmp 5) 0, type := 0, pos := "keyring.go:107", after := #[], guard := none }) (v := ?_) rfl (by kernel_rfl) (by kernel_rfl) (by kernel_rfl) (fun _ _ _ h => h) (Or.inl ⟨by rfl, ?_⟩) (by assumption) ?_
      rotate_left
      · intro wS hSw
        (try dsimp only at hSw)
        go_simp
        (try with_reducible rfl)
      (try simp only [Act.put, List.setIfInBounds_toArray, List.set_cons_zero, List.set_cons_succ])
      refine wpAnyH_take (i := 2) (oi := { dst := some 54, op := Go.Op.move (Go.Operand.tmp 6), type := 3, pos := "keyring.go:107", after := #[], guard := none }) (v := ?_) rfl (by kernel_rfl) (by kernel_rfl) (by kernel_rfl) (fun _ _ _ h => h) (Or.inl ⟨by rfl, ?_⟩) (by assumption) ?_
      rotate_left
      · intro wS hSw
        (try dsimp only at hSw)
        go_simp
        (try with_reducible rfl)
      (try simp only [Act.put, List.setIfInBounds_toArray, List.set_cons_zero, List.set_cons_succ])
      refine wpAnyH_take (i := 3) (oi := { dst := some 55, op := Go.Op.binOp Go.BinOp.add 3 (Go.Operand.tmp 54) (Go.Operand.const (Go.Value.int Go.IntKind.i64 1)) 3, type := 3, pos := "keyring.go:107", after := #[{ on := 2, ground := Go.Ground.data }], guard := none }) (v := ?_) rfl (by kernel_rfl) (by kernel_rfl) (by kernel_rfl) (fun _ _ _ h => h) (Or.inl ⟨by rfl, ?_⟩) (by assumption) ?_
      rotate_left
      · intro wS hSw
        (try dsimp only at hSw)
        go_simp
        (try with_reducible rfl)
      (try simp only [Act.put, List.setIfInBounds_toArray, List.set_cons_zero, List.set_cons_succ])
      refine wpAnyH_take (i := 4) (oi := { dst := some 56, op := Go.Op.convert 3 39 (Go.Operand.tmp 55), type := 39, pos := "keyring.go:107", after := #[{ on := 3, ground := Go.Ground.data }], guard := none }) (v := ?_) rfl (by kernel_rfl) (by kernel_rfl) (by kernel_rfl) (fun _ _ _ h => h) (Or.inl ⟨by rfl, ?_⟩) (by assumption) ?_
      rotate_left
      · intro wS hSw
        (try dsimp only at hSw)
        go_simp
        (try with_reducible rfl)
      (try simp only [Act.put, List.setIfInBounds_toArray, List.set_cons_zero, List.set_cons_succ])
      refine wpAnyH_take (i := 5) (oi := { dst := some 57, op := Go.Op.move (Go.Operand.tmp 0), type := 33, pos := "keyring.go:107", after := #[], guard := none }) (v := ?_) rfl (by kernel_rfl) (by kernel_rfl) (by kernel_rfl) (fun _ _ _ h => h) (Or.inl ⟨by rfl, ?_⟩) (by assumption) ?_
      rotate_left
      · intro wS hSw
        (try dsimp only at hSw)
        go_simp
        (try with_reducible rfl)
      (try simp only [Act.put, List.setIfInBounds_toArray, List.set_cons_zero, List.set_cons_succ])
      refine wpAnyH_take (i := 6) (oi := { dst := some 58, op := Go.Op.move (Go.Operand.tmp 7), type := 3, pos := "keyring.go:107", after := #[], guard := none }) (v := ?_) rfl (by kernel_rfl) (by kernel_rfl) (by kernel_rfl) (fun _ _ _ h => h) (Or.inl ⟨by rfl, ?_⟩) (by assumption) ?_
      rotate_left
      · intro wS hSw
        (try dsimp only at hSw)
        go_simp
        (try with_reducible rfl)
      (try simp only [Act.put, List.setIfInBounds_toArray, List.set_cons_zero, List.set_cons_succ])
      refine wpAnyH_take (i := 7) (oi := { dst := some 59, op := Go.Op.move (Go.Operand.tmp 7), type := 3, pos := "keyring.go:107", after := #[], guard := none }) (v := ?_) rfl (by kernel_rfl) (by kernel_rfl) (by kernel_rfl) (fun _ _ _ h => h) (Or.inl ⟨by rfl, ?_⟩) (by assumption) ?_
      rotate_left
      · intro wS hSw
        (try dsimp only at hSw)
        go_simp
        (try with_reducible rfl)
      (try simp only [Act.put, List.setIfInBounds_toArray, List.set_cons_zero, List.set_cons_succ])
      refine wpAnyH_take (i := 8) (oi := { dst := some 60, op := Go.Op.binOp Go.BinOp.add 3 (Go.Operand.tmp 59) (Go.Operand.const (Go.Value.int Go.IntKind.i64 32)) 3, type := 3, pos := "keyring.go:107", after := #[{ on := 7, ground := Go.Ground.data }], guard := none }) (v := ?_) rfl (by kernel_rfl) (by kernel_rfl) (by kernel_rfl) (fun _ _ _ h => h) (Or.inl ⟨by rfl, ?_⟩) (by assumption) ?_
      rotate_left
      · intro wS hSw
        (try dsimp only at hSw)
        go_simp
        (try with_reducible rfl)
      (try simp only [Act.put, List.setIfInBounds_toArray, List.set_cons_zero, List.set_cons_succ])
      refine wpAnyH_take (i := 9) (oi := { dst := some 61, op := Go.Op.slice 33 (Go.Operand.tmp 57) (some (Go.Operand.tmp 58)) (some (Go.Operand.tmp 60)) none, type := 33, pos := "keyring.go:107", after := #[{ on := 5, ground := Go.Ground.data }, { on := 6, ground := Go.Ground.data }, { on := 8, ground := Go.Ground.data }], guard := none }) (v := ?_) rfl (by kernel_rfl) (by kernel_rfl) (by kernel_rfl) (fun _ _ _ h => h) (Or.inl ⟨by rfl, ?_⟩) (by assumption) ?_
      rotate_left
      · intro wS hSw
        (try dsimp only at hSw)
        go_simp
        (try with_reducible rfl)
      (try simp only [Act.put, List.setIfInBounds_toArray, List.set_cons_zero, List.set_cons_succ])
      refine wpAnyH_take (i := 10) (oi := { dst := some 62, op := Go.Op.sliceToArrayPointer 22 (Go.Operand.tmp 61), type := 0, pos := "keyring.go:107", after := #[{ on := 9, ground := Go.Ground.data }], guard := none }) (v := ?_) rfl (by kernel_rfl) (by kernel_rfl) (by kernel_rfl) (fun _ _ _ h => h) (Or.inl ⟨by rfl, ?_⟩) (by assumption) ?_
      rotate_left
      · intro wS hSw
        (refine exec_s2a22 (x := .tmp 61) (oa := some ⟨bo, oo + at0, none⟩) (len := 32) (cap := cb - at0) ?_ ?_ (by decide) <;> rfl)
      (try simp only [Act.put, List.setIfInBounds_toArray, List.set_cons_zero, List.set_cons_succ])
      refine wpAnyH_take (i := 11) (oi := { dst := some 63, op := Go.Op.load 22 (Go.Operand.tmp 62), type := 22, pos := "keyring.go:107", after := #[{ on := 10, ground := Go.Ground.data }], guard := none }) (v := ?_) rfl (by kernel_rfl) (by kernel_rfl) (by kernel_rfl) (fun _ _ _ h => h) (Or.inl ⟨by rfl, ?_⟩) (by assumption) ?_
      rotate_left
      · intro wS hSw
        (refine exec_loadA (x := .tmp 62) (C := F) ?_ ?_ hSw Tryd.underlying22 rfl HIF.out <;> rfl)
      (try simp only [Act.put, List.setIfInBounds_toArray, List.set_cons_zero, List.set_cons_succ])
      refine wpAnyH_take (i := 12) (oi := { dst := some 64, op := Go.Op.build 55 #[(0, Go.Operand.tmp 56), (1, Go.Operand.tmp 63)], type := 55, pos := "keyring.go:107", after := #[{ on := 4, ground := Go.Ground.data }, { on := 11, ground := Go.Ground.data }], guard := none }) (v := ?_) rfl (by kernel_rfl) (by kernel_rfl) (by kernel_rfl) (fun _ _ _ h => h) (Or.inl ⟨by rfl, ?_⟩) (by assumption) ?_
      rotate_left
      · intro wS hSw
        (refine exec_buildM (parts := #[(0, .tmp 56), (1, .tmp 63)]) (ps := #[(0, .int .u32 (i1 : Int)), (1, .agg F)]) ?_ ?_ HBT.out <;> (first | rfl | (simp [Act.eval]; done) | (go_simp; done)))
      (try simp only [Act.put, List.setIfInBounds_toArray, List.set_cons_zero, List.set_cons_succ])
      refine wpAnyH_ready (rs := [1, 13]) (by kernel_rfl) (by simp) ?_
      refine AllReadyH.cons (o := { dst := some 53, op := Go.Op.load 24 (Go.Operand.tmp 52), type := 24, pos := "keyring.go:107", after := #[{ on := 0, ground := Go.Ground.data }], guard := none }) rfl (fun K hK => ?_) ?_
      · skip
        (have c5 : W0.cell? ⟨b5, 0, none⟩ = some v := (by rw [Blk.cell hDW0.c5]; rfl); go_simp; clear c5; skip)
        refine hK.out _ _ ?_ (fun hHeld => ?_)
        · (try dsimp only)
          (first | assumption | (dsimp only; assumption))
        clear hK K
        (try simp only [Act.put, List.setIfInBounds_toArray, List.set_cons_zero, List.set_cons_succ])
        refine wpAnyH_ready (rs := [13]) (by kernel_rfl) (by simp) ?_
        refine AllReadyH.cons (o := { dst := some 65, op := Go.Op.buildSlice 24 1 #[(0, Go.Operand.tmp 64)], type := 24, pos := "keyring.go:107", after := #[{ on := 12, ground := Go.Ground.data }], guard := none }) rfl (fun K hK => ?_) AllReadyH.nil
        (refine step_bs1 rfl (.tmp 64) rfl C rfl HBS.out ?_; obtain ⟨VBx1, hw⟩ : ∃ q, W0.alloc (.cells C 55) = q := ⟨_, rfl⟩; rw [hw]; have hv : Below W0.heap.size W0 VBx1 := (by rw [← hw]; exact (Below.refl _ _).alloc (Nat.le_refl _) _); have hDVBx1 := hDW0.later hv; have HTN : Hid (TL VBx1 (some ⟨W0.heap.size, 0, none⟩) 1 (fun _ => i1) (fun _ => Ky)) := Lib.hid (by have h9 : Blk VBx1 W0.heap.size C 55 := (by rw [← hw]; exact Blk.new _ _ _); rw [← HCC.out] at h9; exact TL.one h9); have hSVBx1 : VBx1.rangeAt bo (oo + at0) F.toList := HRF.out _ hDVBx1.bel; clear hv hw; skip)
        refine hK.out _ _ ?_ (fun hHeld => ?_)
        · (try dsimp only)
          (first | assumption | (dsimp only; assumption))
        clear hK K
        (try simp only [Act.put, List.setIfInBounds_toArray, List.set_cons_zero, List.set_cons_succ])
        refine wpAnyH_ready (rs := [14]) (by kernel_rfl) (by simp) ?_
        refine AllReadyH.cons (o := { dst := some 66, op := Go.Op.call { callee := Go.Callee.builtin Go.Builtin.append, args := #[Go.Operand.tmp 53, Go.Operand.tmp 65], argTypes := #[24, 24] }, type := 24, pos := "keyring.go:107", after := #[{ on := 1, ground := Go.Ground.data }, { on := 13, ground := Go.Ground.data }], guard := none }) rfl (fun K hK => ?_) AllReadyH.nil
        (refine step_TO und_ts info_f1 rfl (.tmp 53) (.tmp 65) rfl base v i 1 1 (fun i => i + 1) (fun _ => i1) (fun i j => B (3 + 32 * i + j)) (fun _ => Ky) (some ⟨W0.heap.size, 0, none⟩) VBx1 rfl hDVBx1.row rfl HTN.out (fun e => by cases e) (by have := HI.out; omega) hDVBx1.sz ?_; intro v2 W2 hto2 hb2 hg2; have hD2 := hDVBx1.grew HBB.out hg2 hb2 (HCG.out _ _ hto2); obtain ⟨o2, cp2, hv2, -, -, -, -, -⟩ := hto2.out; subst hv2; have hSW2 : W2.rangeAt bo (oo + at0) F.toList := HRF.out _ hD2.bel; clear hto2 hb2 hg2; skip)
        refine hK.out _ _ ?_ (fun hHeld => ?_)
        · (try dsimp only)
          (first | assumption | (dsimp only; assumption))
        clear hK K
        (try simp only [Act.put, List.setIfInBounds_toArray, List.set_cons_zero, List.set_cons_succ])
        refine wpAnyH_take (i := 15) (oi := { dst := some 67, op := Go.Op.fieldAddr 26 (Go.Operand.tmp 5) 0, type := 0, pos := "keyring.go:107", after := #[{ on := 0, ground := Go.Ground.phase }, { on := 1, ground := Go.Ground.phase }, { on := 2, ground := Go.Ground.phase }, { on := 3, ground := Go.Ground.phase }, { on := 4, ground := Go.Ground.phase }, { on := 5, ground := Go.Ground.phase }, { on := 6, ground := Go.Ground.phase }, { on := 7, ground := Go.Ground.phase }, { on := 8, ground := Go.Ground.phase }, { on := 9, ground := Go.Ground.phase }, { on := 10, ground := Go.Ground.phase }, { on := 11, ground := Go.Ground.phase }, { on := 12, ground := Go.Ground.phase }, { on := 13, ground := Go.Ground.phase }, { on := 14, ground := Go.Ground.phase }], guard := none }) (v := ?_) rfl (by kernel_rfl) (by kernel_rfl) (by kernel_rfl) (fun _ _ _ h => h) (Or.inl ⟨by rfl, ?_⟩) (by assumption) ?_
        rotate_left
        · intro wS hSw
          (try dsimp only at hSw)
          go_simp
          (try with_reducible rfl)
        (try simp only [Act.put, List.setIfInBounds_toArray, List.set_cons_zero, List.set_cons_succ])
        refine wpAnyH_ready (rs := [16]) (by kernel_rfl) (by simp) ?_
        refine AllReadyH.cons (o := { dst := none, op := Go.Op.store 24 (Go.Operand.tmp 67) (Go.Operand.tmp 66), type := 0, pos := "keyring.go:107", after := #[{ on := 15, ground := Go.Ground.data }, { on := 14, ground := Go.Ground.data }, { on := 14, ground := Go.Ground.chain }, { on := 0, ground := Go.Ground.phase }, { on := 1, ground := Go.Ground.phase }, { on := 2, ground := Go.Ground.phase }, { on := 3, ground := Go.Ground.phase }, { on := 4, ground := Go.Ground.phase }, { on := 5, ground := Go.Ground.phase }, { on := 6, ground := Go.Ground.phase }, { on := 7, ground := Go.Ground.phase }, { on := 8, ground := Go.Ground.phase }, { on := 9, ground := Go.Ground.phase }, { on := 10, ground := Go.Ground.phase }, { on := 11, ground := Go.Ground.phase }, { on := 12, ground := Go.Ground.phase }, { on := 13, ground := Go.Ground.phase }, { on := 14, ground := Go.Ground.phase }], guard := none }) rfl (fun K hK => ?_) AllReadyH.nil
        (have c5 : W2.cell? ⟨b5, 0, none⟩ = some v := (by rw [Blk.cell hD2.c5]; rfl); have f5 : W2.frozen? ⟨b5, 0, none⟩ = false := Blk.free hD2.c5 _; go_simp; have hD3 := hD2.put HBB.out; have hSW3 := HRF.out _ hD3.bel; clear c5 f5; skip)
        refine hK.out _ _ ?_ (fun hHeld => ?_)
        · (try dsimp only)
          (first | assumption | (dsimp only; assumption))
        clear hK K
        (try simp only [Act.put, List.setIfInBounds_toArray, List.set_cons_zero, List.set_cons_succ])
        refine wpAnyH_done (by kernel_rfl) ?_ _
        have HD3 := Lib.hid hD3
        clear hD3 hSW3 hD2 hSW2
        go_wp2_with fail
        go_roundw
        case rel => exact ⟨i + 1, _, HI.out.1, by first | rfl | go_num, HD3.out⟩
        case measure => have := HI.out.1; simp [intOf]; omega
      refine AllReadyH.cons (o := { dst := some 65, op := Go.Op.buildSlice 24 1 #[(0, Go.Operand.tmp 64)], type := 24, pos := "keyring.go:107", after := #[{ on := 12, ground := Go.Ground.data }], guard := none }) rfl (fun K hK => ?_) AllReadyH.nil
      (refine step_bs1 rfl (.tmp 64) rfl C rfl HBS.out ?_; obtain ⟨VBx13, hw⟩ : ∃ q, W0.alloc (.cells C 55) = q := ⟨_, rfl⟩; rw [hw]; have hv : Below W0.heap.size W0 VBx13 := (by rw [← hw]; exact (Below.refl _ _).alloc (Nat.le_refl _) _); have hDVBx13 := hDW0.later hv; have HTN : Hid (TL VBx13 (some ⟨W0.heap.size, 0, none⟩) 1 (fun _ => i1) (fun _ => Ky)) := Lib.hid (by have h9 : Blk VBx13 W0.heap.size C 55 := (by rw [← hw]; exact Blk.new _ _ _); rw [← HCC.out] at h9; exact TL.one h9); have hSVBx13 : VBx13.rangeAt bo (oo + at0) F.toList := HRF.out _ hDVBx13.bel; clear hv hw; skip)
      refine hK.out _ _ ?_ (fun hHeld => ?_)
      · (try dsimp only)
        (first | assumption | (dsimp only; assumption))
      clear hK K
      (try simp only [Act.put, List.setIfInBounds_toArray, List.set_cons_zero, List.set_cons_succ])
      refine wpAnyH_ready (rs := [1]) (by kernel_rfl) (by simp) ?_
      refine AllReadyH.cons (o := { dst := some 53, op := Go.Op.load 24 (Go.Operand.tmp 52), type := 24, pos := "keyring.go:107", after := #[{ on := 0, ground := Go.Ground.data }], guard := none }) rfl (fun K hK => ?_) AllReadyH.nil
      (have c5 : VBx13.cell? ⟨b5, 0, none⟩ = some v := (by rw [Blk.cell hDVBx13.c5]; rfl); go_simp; clear c5; skip)
      refine hK.out _ _ ?_ (fun hHeld => ?_)
      · (try dsimp only)
        (first | assumption | (dsimp only; assumption))
      clear hK K
      (try simp only [Act.put, List.setIfInBounds_toArray, List.set_cons_zero, List.set_cons_succ])
      refine wpAnyH_ready (rs := [14]) (by kernel_rfl) (by simp) ?_
      refine AllReadyH.cons (o := { dst := some 66, op := Go.Op.call { callee := Go.Callee.builtin Go.Builtin.append, args := #[Go.Operand.tmp 53, Go.Operand.tmp 65], argTypes := #[24, 24] }, type := 24, pos := "keyring.go:107", after := #[{ on := 1, ground := Go.Ground.data }, { on := 13, ground := Go.Ground.data }], guard := none }) rfl (fun K hK => ?_) AllReadyH.nil
      (refine step_TO und_ts info_f1 rfl (.tmp 53) (.tmp 65) rfl base v i 1 1 (fun i => i + 1) (fun _ => i1) (fun i j => B (3 + 32 * i + j)) (fun _ => Ky) (some ⟨W0.heap.size, 0, none⟩) VBx13 rfl hDVBx13.row rfl HTN.out (fun e => by cases e) (by have := HI.out; omega) hDVBx13.sz ?_; intro v2 W2 hto2 hb2 hg2; have hD2 := hDVBx13.grew HBB.out hg2 hb2 (HCG.out _ _ hto2); obtain ⟨o2, cp2, hv2, -, -, -, -, -⟩ := hto2.out; subst hv2; have hSW2 : W2.rangeAt bo (oo + at0) F.toList := HRF.out _ hD2.bel; clear hto2 hb2 hg2; skip)
      refine hK.out _ _ ?_ (fun hHeld => ?_)
      · (try dsimp only)
        (first | assumption | (dsimp only; assumption))
      clear hK K
      (try simp only [Act.put, List.setIfInBounds_toArray, List.set_cons_zero, List.set_cons_succ])
      refine wpAnyH_take (i := 15) (oi := { dst := some 67, op := Go.Op.fieldAddr 26 (Go.Operand.tmp 5) 0, type := 0, pos := "keyring.go:107", after := #[{ on := 0, ground := Go.Ground.phase }, { on := 1, ground := Go.Ground.phase }, { on := 2, ground := Go.Ground.phase }, { on := 3, ground := Go.Ground.phase }, { on := 4, ground := Go.Ground.phase }, { on := 5, ground := Go.Ground.phase }, { on := 6, ground := Go.Ground.phase }, { on := 7, ground := Go.Ground.phase }, { on := 8, ground := Go.Ground.phase }, { on := 9, ground := Go.Ground.phase }, { on := 10, ground := Go.Ground.phase }, { on := 11, ground := Go.Ground.phase }, { on := 12, ground := Go.Ground.phase }, { on := 13, ground := Go.Ground.phase }, { on := 14, ground := Go.Ground.phase }], guard := none }) (v := ?_) rfl (by kernel_rfl) (by kernel_rfl) (by kernel_rfl) (fun _ _ _ h => h) (Or.inl ⟨by rfl, ?_⟩) (by assumption) ?_
      rotate_left
      · intro wS hSw
        (try dsimp only at hSw)
        go_simp
        (try with_reducible rfl)
      (try simp only [Act.put, List.setIfInBounds_toArray, List.set_cons_zero, List.set_cons_succ])
      refine wpAnyH_ready (rs := [16]) (by kernel_rfl) (by simp) ?_
      refine AllReadyH.cons (o := { dst := none, op := Go.Op.store 24 (Go.Operand.tmp 67) (Go.Operand.tmp 66), type := 0, pos := "keyring.go:107", after := #[{ on := 15, ground := Go.Ground.data }, { on := 14, ground := Go.Ground.data }, { on := 14, ground := Go.Ground.chain }, { on := 0, ground := Go.Ground.phase }, { on := 1, ground := Go.Ground.phase }, { on := 2, ground := Go.Ground.phase }, { on := 3, ground := Go.Ground.phase }, { on := 4, ground := Go.Ground.phase }, { on := 5, ground := Go.Ground.phase }, { on := 6, ground := Go.Ground.phase }, { on := 7, ground := Go.Ground.phase }, { on := 8, ground := Go.Ground.phase }, { on := 9, ground := Go.Ground.phase }, { on := 10, ground := Go.Ground.phase }, { on := 11, ground := Go.Ground.phase }, { on := 12, ground := Go.Ground.phase }, { on := 13, ground := Go.Ground.phase }, { on := 14, ground := Go.Ground.phase }], guard := none }) rfl (fun K hK => ?_) AllReadyH.nil
      (have c5 : W2.cell? ⟨b5, 0, none⟩ = some v := (by rw [Blk.cell hD2.c5]; rfl); have f5 : W2.frozen? ⟨b5, 0, none⟩ = false := Blk.free hD2.c5 _; go_simp; have hD3 := hD2.put HBB.out; have hSW3 := HRF.out _ hD3.bel; clear c5 f5; skip)
      refine hK.out _ _ ?_ (fun hHeld => ?_)
      · (try dsimp only)
        (first | assumption | (dsimp only; assumption))
      clear hK K
      (try simp only [Act.put, List.setIfInBounds_toArray, List.set_cons_zero, List.set_cons_succ])
      refine wpAnyH_done (by kernel_rfl) ?_ _
      have HD3 := Lib.hid hD3
      clear hD3 hSW3 hD2 hSW2
      go_wp2_with fail
      go_roundw
      case rel => exact ⟨i + 1, _, HI.out.1, by first | rfl | go_num, HD3.out⟩
      case measure => have := HI.out.1; simp [intOf]; omega
    · obtain rfl : i = a2 := by omega
      have za1 : ¬ (i : Int) < (i : Int) := by omega
      have za2 : decide ((i : Int) < (i : Int)) = false := decide_eq_false za1
      have za7 : ¬ i < i := by omega
      have za8 : decide (i < i) = false := decide_eq_false za7
      obtain ⟨o, c, rfl, hnc, hmx, hno, hbl, hTL⟩ := hDwr.row.out
      have c5 : wr.cell? ⟨b5, 0, none⟩ = some (.slice o i c) := by rw [Blk.cell hDwr.c5]; rfl
      have c2 : wr.cell? ⟨b2, 0, none⟩ = some (.slice none 0 0) := by rw [Blk.cell hDwr.c2]; rfl
      have f2 : wr.frozen? ⟨b2, 0, none⟩ = false := Blk.free hDwr.c2 0
      have HTL := Lib.hid (And.intro hTL hbl)
      clear hDwr hnc hmx hno hbl hTL
      go_wp2_with fail
      have hO := (Own.refl b2 wr).set 0 (.slice o i c)
      have hbb := HBB.out
      have HTX : Hid (TL (wr.setCell ⟨b2, 0, none⟩ (.slice o i c)) o (B 2) (fun i => i + 1) (fun i j => B (3 + 32 * i + j))) := Lib.hid (by rw [HA.out.2.2]; exact HTL.out.1.away hO (fun a ha => by have := (HTL.out.2 a ha).1; omega))
      have HBX9 : Hid (Below w.heap.size w (wr.setCell ⟨b2, 0, none⟩ (.slice o i c))) := Lib.hid (HDW.out.bel.trans (hO.below (by omega) HDW.out.bel.size))
      have HR9 : Hid (Blk (wr.setCell ⟨b2, 0, none⟩ (.slice o i c)) b2 #[.slice o i c] 26) := Lib.hid (HDW.out.c2.set 0 _)
      refine bodyPost_ret (v := .tuple #[.agg #[.slice o i c], .nilIface]) ?_ rfl (by have h9 := DecR.ok (c := c) HOK.out HBX9.out HTX.out; rw [HA.out.2.2] at h9; exact h9)
      exact results_cell_tmp1 (q := 3) Tryd.results10 _ _ b2 26 #[.slice o i c] (0, 0) _ rfl HR9.out Tryd.underlying26 rfl (info_rg _)
end Go.Proofs.YtloajfbehejehaaDoor
namespace Go.Proofs.YtloajfbehejehaaDoor
set_option linter.unusedVariables false
set_option linter.unusedSimpArgs false
open Go.RowKit
/-- What Active answers. -/
def ActR (n : Nat) (N : Nat → Nat) (S : Nat → Nat → Nat) (w : World) (e : Ending) (w' : World) : Prop := Below w.heap.size w w' ∧
  ((¬ OkT n N ∧ e = .returned (.tuple #[.agg zeroT, .iface 64 (.int .i64 1)])) ∨ (OkT n N ∧ e = .returned (.tuple #[.agg (tmL n (S (n - 1))).toArray, .nilIface])))
theorem ActR.no {n : Nat} {N : Nat → Nat} {S : Nat → Nat → Nat} {w w' : World} (h : ¬ OkT n N) (hb : Below w.heap.size w w') : ActR n N S w (.returned (.tuple #[.agg zeroT, .iface 64 (.int .i64 1)])) w' := ⟨hb, .inl ⟨h, rfl⟩⟩
theorem ActR.ok {n : Nat} {N : Nat → Nat} {S : Nat → Nat → Nat} {w w' : World} (h : OkT n N) (hb : Below w.heap.size w w') : ActR n N S w (.returned (.tuple #[.agg (tmL n (S (n - 1))).toArray, .nilIface])) w' := ⟨hb, .inr ⟨h, rfl⟩⟩
set_option maxRecDepth 100000 in
set_option maxHeartbeats 8000000 in
theorem active_any (n cs : Nat) (oa : Option Addr) (N : Nat → Nat) (S : Nat → Nat → Nat) (w : World) (hT : TL w oa n N S) (hN : ∀ i, i < n → N i < 4294967296) (hn : n < 10000) :
    Calls Tryd.prog 18 #[.agg #[.slice oa n cs]] w (ActR n N S w) := by
  obtain ⟨b2, hb2⟩ : ∃ q, w.heap.size + 1 = q := ⟨_, rfl⟩
  obtain ⟨w0, hw0⟩ : ∃ q, (w.alloc (.cells #[.slice oa n cs] 26)).alloc (.cells zeroT 55) = q := ⟨_, rfl⟩
  have hb0 : Below w.heap.size w w0 := by rw [← hw0]; exact ((Below.refl _ _).alloc (Nat.le_refl _) _).alloc (by simp) _
  have hR : Blk w0 w.heap.size #[.slice oa n cs] 26 := by rw [← hw0]; exact (Blk.new _ _ _).alloc _
  have hZ : Blk w0 b2 zeroT 55 := by rw [← hw0, ← hb2]; have h9 := Blk.new (w.alloc (.cells #[.slice oa n cs] 26)) zeroT 55; simpa using h9
  have HCK := Lib.hid (check_any n cs oa N S w0 (hT.later hb0) hN (by omega))
  have HB0 := Lib.hid hb0
  have HR0 := Lib.hid hR
  have HZ0 := Lib.hid hZ
  have HT := Lib.hid hT
  have HNN := Lib.hid hn
  have HGE := Lib.hid (show w.heap.size ≤ b2 ∧ w.heap.size ≠ b2 by omega)
  have c2 : w0.cell? ⟨w.heap.size, 0, none⟩ = some (.slice oa n cs) := by rw [Blk.cell hR]; rfl
  clear hb0 hR hZ hT hN hn
  go_enter Tryd.func18, Tryd.ntmps18
  go_wp2_with (first | (refine wpList_zero rfl rfl zero_t1 ?_; (try simp only [Act.put, List.setIfInBounds_toArray, List.set_cons_zero, List.set_cons_succ])))
  refine HCK.out.mono ?_
  rintro e w1 ⟨(⟨rfl, hok⟩ | ⟨rfl, hno⟩), hb1⟩
  · have HOK := Lib.hid hok
    have HR1 := Lib.hid (Blk.below HR0.out hb1 (Blk.lt HR0.out))
    have HB1 := Lib.hid (HB0.out.trans (hb1.mono HB0.out.size))
    have c2 : w1.cell? ⟨w.heap.size, 0, none⟩ = some (.slice oa n cs) := by rw [Blk.cell HR1.out]; rfl
    obtain ⟨C, hC⟩ : ∃ q, (tmL n (S (n - 1))).toArray = q := ⟨_, rfl⟩
    have HSZ : C.size = 33 := by rw [← hC]; exact tm_size _ _
    have hZ1 := Blk.below HZ0.out hb1 (Blk.lt HZ0.out)
    have HTH : Hid (w1.there b2 0 C.size) := Lib.hid (hZ1.there (by rw [zeroT_size]; exact Nat.le_of_eq HSZ))
    have HIS : Hid ((Tryd.prog.info? 55).map (·.size) = some C.size) := Lib.hid (by rw [HSZ]; exact info_t1)
    have HON : Hid (C.all (·.oneCell') = true) := Lib.hid (by rw [← hC]; exact tm_one _ _)
    have h1 := hok.1
    have h2 := hok.2.1
    have hNm := hok.2.2 (n - 1) (by omega)
    obtain ⟨bb, off, ho, hrg⟩ := (HT.out.later HB1.out) (n - 1) (by omega)
    rw [show N (n - 1) = n by omega] at hrg
    subst ho
    obtain ⟨n1, hn1⟩ : ∃ q, n - 1 = q := ⟨_, rfl⟩
    have HRG : Hid (w1.rangeAt bb (off + n1 * 33) C.toList) := Lib.hid (by rw [← hC, ← hn1]; exact hrg)
    have k1 : (n : Int) - 1 = (n1 : Int) := by omega
    have k2 : IntKind.i64.wrap (n1 : Int) = (n1 : Int) := IntWalk.i64_in _ (by omega)
    have k3 : (n1 : Int) < (n : Int) := by omega
    have k4 : (0 : Int) ≤ (n1 : Int) := by omega
    have k5 : n1 < n := by omega
    obtain ⟨w5, hw5⟩ : ∃ q, w1.setCells b2 0 C.toList = q := ⟨_, rfl⟩
    have hO : Own b2 w1 w5 := by rw [← hw5]; exact Own.setCells _ _ _
    have HN5 : Hid (Blk w5 b2 C 55) := Lib.hid (by rw [← hw5]; exact Blk.setCells hZ1 C.toList (by rw [zeroT_size, Array.length_toList]; exact HSZ))
    have HB5 : Hid (Below w.heap.size w w5) := Lib.hid (HB1.out.trans (hO.below HGE.out.1 HB1.out.size))
    have HW5 := Lib.hid hw5
    have HINF : Hid ((Tryd.prog.info? 55).map (·.size) = some C.size) := HIS
    have HAC : Hid (ActR n N S w (.returned (.tuple #[.agg C, .nilIface])) w5) := Lib.hid (by rw [← hC]; exact ActR.ok hok HB5.out)
    clear hb1 hok hw0 HR0 HCK hrg hC HSZ hZ1 hO hw5 h1 h2 hNm hn1
    go_wp2_with (first | (refine wpList_value rfl (exec_loadA (x := .tmp 17) (C := C) rfl rfl HRG.out Tryd.underlying55 rfl HIS.out) ?_) | (refine wpList_store_mid rfl 55 (.tmp 2) (.tmp 18) rfl b2 0 C rfl rfl HTH.out HIS.out HON.out ?_; rw [HW5.out]))
    refine bodyPost_ret (v := .tuple #[.agg (C), .nilIface]) ?_ rfl (HAC.out)
    exact results_cell_tmp1 (q := 3) Tryd.results18 _ _ b2 55 (C) (0, 0) _ rfl HN5.out Tryd.underlying55 rfl HINF.out
  · have HB1 := Lib.hid (HB0.out.trans (hb1.mono HB0.out.size))
    have hZ1 := Blk.below HZ0.out hb1 (Blk.lt HZ0.out)
    have HTH : Hid (w1.there b2 0 zeroT.size) := Lib.hid (hZ1.there (Nat.le_refl _))
    have HINF : Hid ((Tryd.prog.info? 55).map (·.size) = some zeroT.size) := Lib.hid (by rw [zeroT_size]; exact info_t1)
    have HON : Hid (zeroT.all (·.oneCell') = true) := Lib.hid (tm_one _ _)
    obtain ⟨w5, hw5⟩ : ∃ q, w1.setCells b2 0 zeroT.toList = q := ⟨_, rfl⟩
    have hO : Own b2 w1 w5 := by rw [← hw5]; exact Own.setCells _ _ _
    have HN5 : Hid (Blk w5 b2 zeroT 55) := Lib.hid (by rw [← hw5]; exact Blk.setCells hZ1 zeroT.toList (by simp))
    have HB5 : Hid (Below w.heap.size w w5) := Lib.hid (HB1.out.trans (hO.below HGE.out.1 HB1.out.size))
    have HW5 := Lib.hid hw5
    have HNO := Lib.hid hno
    clear hb1 hno hw0 HR0 HCK hZ1 hO hw5
    go_wp2_with (first | (refine wpList_value rfl (exec_buildM (parts := #[]) (ps := #[]) (C := zeroT) rfl rfl build_z1) ?_) | (refine wpList_store_mid rfl 55 (.tmp 2) (.tmp 9) rfl b2 0 zeroT rfl rfl HTH.out HINF.out HON.out ?_; rw [HW5.out]))
    refine bodyPost_ret (v := .tuple #[.agg (zeroT), .iface 64 (.int .i64 1)]) ?_ rfl ((ActR.no HNO.out HB5.out))
    exact results_cell_tmp1 (q := 3) Tryd.results18 _ _ b2 55 (zeroT) (0, 0) _ rfl HN5.out Tryd.underlying55 rfl HINF.out
end Go.Proofs.YtloajfbehejehaaDoor
namespace Go.Proofs.YtloajfbehejehaaDoor
set_option linter.unusedVariables false
set_option linter.unusedSimpArgs false
open Go.RowKit
def useOk (s : ByteArray) : Prop := 1 ≤ s.size ∧ s.size ≤ 32
open Classical in
noncomputable def useT (s : ByteArray) (x : Nat) (Ky : Nat → Nat) : ByteArray := if useOk s then strF 32 (exF 32 Ky (s.size + 5) (kiF s x)) else ⟨#[]⟩
/-- What it answers. -/
def useR (s : ByteArray) (x : Nat) (Ky : Nat → Nat) (w : World) (e : Ending) (w' : World) : Prop := ∃ o m c v, e = .returned (.tuple #[.slice o m c, v]) ∧ ((useOk s ∧ v = .nilIface) ∨ (¬ useOk s ∧ v = .iface 64 (.int .i64 1))) ∧ CV w' o m (useT s x Ky) ∧ Below w.heap.size w w' ∧ (useOk s → m = 32)
set_option maxRecDepth 100000 in
set_option maxHeartbeats 8000000 in
theorem use_any (s : ByteArray) (x : Nat) (Ky : Nat → Nat) (w : World) (hx : x < 4294967296) (hs : s.size ≤ 9223372036854775807) (hK : ∀ i, i < 32 → Ky i < 256) (hg : GV w) : Calls Tryd.prog 19 #[.agg (tmL x Ky).toArray, .string s] w (useR s x Ky w) := by
  obtain ⟨b2, hb2⟩ : ∃ q, w.heap.size = q := ⟨_, rfl⟩
  obtain ⟨C, hC⟩ : ∃ q, (tmL x Ky).toArray = q := ⟨_, rfl⟩
  obtain ⟨w0, hw0⟩ : ∃ q, w.alloc (.cells C 55) = q := ⟨_, rfl⟩
  have hb0 : Below w.heap.size w w0 := by rw [← hw0]; exact (Below.refl _ _).alloc (Nat.le_refl _) _
  have hB : Blk w0 b2 C 55 := by rw [← hw0, ← hb2]; exact Blk.new _ _ _
  have HC : Hid (∀ A, Blk A b2 C 55 → Below w.heap.size w A → Calls Tryd.prog 26 #[.slice (some ⟨b2, 1, none⟩) 32 32, .string s, .int .u32 (x : Int)] A fun e w' => ∃ o m c v, e = .returned (.tuple #[.slice o m c, v]) ∧ ((useOk s ∧ v = .nilIface) ∨ (¬ useOk s ∧ v = .iface 64 (.int .i64 1))) ∧ CV w' o m (useT s x Ky) ∧ Below A.heap.size A w' ∧ (useOk s → m = 32)) := Lib.hid fun A hA hbA => by
    have hA' : Blk A b2 (tmL x Ky).toArray 55 := by rw [hC]; exact hA
    have hBy := tm_bytes hA' hK
    by_cases hu : useOk s
    · refine (key_any (some ⟨b2, 1, none⟩) 32 Ky s x A hBy (Nat.le_refl _) hu.1 hu.2 hx (hg.later hbA)).mono ?_
      rintro e w' ⟨o, rfl, h3, h5⟩
      refine ⟨o, 32, 32, _, rfl, .inl ⟨hu, rfl⟩, ⟨_, h3, fun e => (by obtain ⟨_, b, off, e2, _⟩ := h3 0 (by decide); rw [e] at e2; cases e2), by unfold useT; rw [if_pos hu]⟩, h5, fun _ => rfl⟩
    · refine (key_bad (some ⟨b2, 1, none⟩) 32 32 s _ A (by omega) hs (.inr (by unfold useOk at hu; omega))).mono ?_
      rintro e w' ⟨rfl, rfl⟩
      refine ⟨none, 0, 0, _, rfl, .inr ⟨hu, rfl⟩, by unfold useT; rw [if_neg hu]; exact CV.none _, Below.refl _ _, fun h => absurd h hu⟩
  have HB := Lib.hid hb0
  have HCELL : Hid (∀ A, Blk A b2 C 55 → A.cell? ⟨b2, 0, none⟩ = some (.int .u32 (x : Int))) := Lib.hid fun A hA => by
    have hA' : Blk A b2 (tmL x Ky).toArray 55 := by rw [hC]; exact hA
    exact tm_cell0 hA'
  have HRI : Hid True := Lib.hid trivial
  rw [hC]
  clear hx hs hK hg
  go_enter Tryd.func19, Tryd.ntmps19
  go_upto_region 1 with fail
  have hSB : Blk w0.drew b2 C 55 := hB
  have hbw : Below w.heap.size w w0.drew := HB.out.trans ((Below.refl _ _).drew.mono HB.out.size)
  clear hB hb0 hC hw0
  refine wp_region_held_drew (S := (fun A => Blk A b2 C 55)) (by kernel_rfl) ?_ (fun hHeld => ?_)
  · (try dsimp only)
    (first | assumption | (dsimp only; assumption))
  generalize w0.drew = W0 at *
  refine wpAnyH_take (i := 0) (oi := { dst := some 6, op := Go.Op.fieldAddr 55 (Go.Operand.tmp 2) 1, type := 0, pos := "keyring.go:113", after := #[], guard := none }) (v := ?_) rfl (by kernel_rfl) (by kernel_rfl) (by kernel_rfl) (fun _ _ _ h => h) (Or.inl ⟨by rfl, ?_⟩) (by assumption) ?_
  rotate_left
  · intro wS hSw
    (try dsimp only at hSw)
    go_simp
    (try with_reducible rfl)
  (try simp only [Act.put, List.setIfInBounds_toArray, List.set_cons_zero, List.set_cons_succ])
  refine wpAnyH_take (i := 1) (oi := { dst := some 7, op := Go.Op.slice 22 (Go.Operand.tmp 6) none none none, type := 33, pos := "keyring.go:113", after := #[{ on := 0, ground := Go.Ground.data }], guard := none }) (v := ?_) rfl (by kernel_rfl) (by kernel_rfl) (by kernel_rfl) (fun _ _ _ h => h) (Or.inl ⟨by rfl, ?_⟩) (by assumption) ?_
  rotate_left
  · intro wS hSw
    (try dsimp only at hSw)
    go_simp
    (try with_reducible rfl)
  (try simp only [Act.put, List.setIfInBounds_toArray, List.set_cons_zero, List.set_cons_succ])
  refine wpAnyH_take (i := 2) (oi := { dst := some 8, op := Go.Op.move (Go.Operand.tmp 1), type := 9, pos := "keyring.go:113", after := #[], guard := none }) (v := ?_) rfl (by kernel_rfl) (by kernel_rfl) (by kernel_rfl) (fun _ _ _ h => h) (Or.inl ⟨by rfl, ?_⟩) (by assumption) ?_
  rotate_left
  · intro wS hSw
    (try dsimp only at hSw)
    go_simp
    (try with_reducible rfl)
  (try simp only [Act.put, List.setIfInBounds_toArray, List.set_cons_zero, List.set_cons_succ])
  refine wpAnyH_take (i := 3) (oi := { dst := some 9, op := Go.Op.fieldAddr 55 (Go.Operand.tmp 2) 0, type := 0, pos := "keyring.go:113", after := #[], guard := none }) (v := ?_) rfl (by kernel_rfl) (by kernel_rfl) (by kernel_rfl) (fun _ _ _ h => h) (Or.inl ⟨by rfl, ?_⟩) (by assumption) ?_
  rotate_left
  · intro wS hSw
    (try dsimp only at hSw)
    go_simp
    (try with_reducible rfl)
  (try simp only [Act.put, List.setIfInBounds_toArray, List.set_cons_zero, List.set_cons_succ])
  refine wpAnyH_take (i := 4) (oi := { dst := some 10, op := Go.Op.load 39 (Go.Operand.tmp 9), type := 39, pos := "keyring.go:113", after := #[{ on := 3, ground := Go.Ground.data }], guard := none }) (v := ?_) rfl (by kernel_rfl) (by kernel_rfl) (by kernel_rfl) (fun _ _ _ h => h) (Or.inl ⟨by rfl, ?_⟩) (by assumption) ?_
  rotate_left
  · intro wS hSw
    (have c9 : wS.cell? ⟨b2, 0, none⟩ = some (.int .u32 (x : Int)) := HCELL.out _ hSw; go_simp; (try with_reducible rfl))
  (try simp only [Act.put, List.setIfInBounds_toArray, List.set_cons_zero, List.set_cons_succ])
  refine wpAnyH_ready (rs := [5]) (by kernel_rfl) (by simp) ?_
  refine AllReadyH.cons (o := { dst := some 11, op := Go.Op.call { callee := Go.Callee.value (Go.Operand.func 26), args := #[Go.Operand.tmp 7, Go.Operand.tmp 8, Go.Operand.tmp 10], argTypes := #[33, 9, 39] }, type := 34, pos := "keyring.go:113", after := #[{ on := 1, ground := Go.Ground.data }, { on := 2, ground := Go.Ground.data }, { on := 4, ground := Go.Ground.data }], guard := none }) rfl (fun K hK => ?_) AllReadyH.nil
  go_simp
  (refine (HC.out _ hSB hbw).mono ?_; rintro e w7 ⟨o, m, c, v, rfl, hv, hcv, hbl, hm⟩; have HCV := Lib.hid (And.intro hcv hm); have HVV := Lib.hid hv; have hB7 := Below.trans hbw (hbl.mono (Below.size hbw)); have hS7 := Blk.below hSB hbl (Blk.lt hSB); clear hv hcv hbl hm hSB hbw; skip)
  (try go_wp2_with fail)
  refine hK.out _ _ ?_ (fun hHeld => ?_)
  · (try dsimp only)
    (first | assumption | (dsimp only; assumption))
  clear hK K
  (try simp only [Act.put, List.setIfInBounds_toArray, List.set_cons_zero, List.set_cons_succ])
  refine wpAnyH_take (i := 6) (oi := { dst := some 12, op := Go.Op.extract (Go.Operand.tmp 11) 0, type := 33, pos := "keyring.go:113", after := #[{ on := 5, ground := Go.Ground.data }], guard := none }) (v := ?_) rfl (by kernel_rfl) (by kernel_rfl) (by kernel_rfl) (fun _ _ _ h => h) (Or.inl ⟨by rfl, ?_⟩) (by assumption) ?_
  rotate_left
  · intro wS hSw
    (try dsimp only at hSw)
    go_simp
    (try with_reducible rfl)
  (try simp only [Act.put, List.setIfInBounds_toArray, List.set_cons_zero, List.set_cons_succ])
  refine wpAnyH_take (i := 7) (oi := { dst := some 13, op := Go.Op.extract (Go.Operand.tmp 11) 1, type := 29, pos := "keyring.go:113", after := #[{ on := 5, ground := Go.Ground.data }], guard := none }) (v := ?_) rfl (by kernel_rfl) (by kernel_rfl) (by kernel_rfl) (fun _ _ _ h => h) (Or.inl ⟨by rfl, ?_⟩) (by assumption) ?_
  rotate_left
  · intro wS hSw
    (try dsimp only at hSw)
    go_simp
    (try with_reducible rfl)
  (try simp only [Act.put, List.setIfInBounds_toArray, List.set_cons_zero, List.set_cons_succ])
  refine wpAnyH_take (i := 8) (oi := { dst := some 4, op := Go.Op.assign (Go.Operand.tmp 12), type := 33, pos := "keyring.go:113", after := #[{ on := 6, ground := Go.Ground.data }, { on := 5, ground := Go.Ground.chain }, { on := 0, ground := Go.Ground.phase }, { on := 1, ground := Go.Ground.phase }, { on := 2, ground := Go.Ground.phase }, { on := 3, ground := Go.Ground.phase }, { on := 4, ground := Go.Ground.phase }, { on := 5, ground := Go.Ground.phase }, { on := 6, ground := Go.Ground.phase }, { on := 7, ground := Go.Ground.phase }], guard := none }) (v := ?_) rfl (by kernel_rfl) (by kernel_rfl) (by kernel_rfl) (fun _ _ _ h => h) (Or.inl ⟨by rfl, ?_⟩) (by assumption) ?_
  rotate_left
  · intro wS hSw
    (try dsimp only at hSw)
    go_simp
    (try with_reducible rfl)
  (try simp only [Act.put, List.setIfInBounds_toArray, List.set_cons_zero, List.set_cons_succ])
  refine wpAnyH_take (i := 9) (oi := { dst := some 5, op := Go.Op.assign (Go.Operand.tmp 13), type := 29, pos := "keyring.go:113", after := #[{ on := 7, ground := Go.Ground.data }, { on := 8, ground := Go.Ground.chain }, { on := 0, ground := Go.Ground.phase }, { on := 1, ground := Go.Ground.phase }, { on := 2, ground := Go.Ground.phase }, { on := 3, ground := Go.Ground.phase }, { on := 4, ground := Go.Ground.phase }, { on := 5, ground := Go.Ground.phase }, { on := 6, ground := Go.Ground.phase }, { on := 7, ground := Go.Ground.phase }, { on := 8, ground := Go.Ground.phase }], guard := none }) (v := ?_) rfl (by kernel_rfl) (by kernel_rfl) (by kernel_rfl) (fun _ _ _ h => h) (Or.inl ⟨by rfl, ?_⟩) (by assumption) ?_
  rotate_left
  · intro wS hSw
    (try dsimp only at hSw)
    go_simp
    (try with_reducible rfl)
  (try simp only [Act.put, List.setIfInBounds_toArray, List.set_cons_zero, List.set_cons_succ])
  refine wpAnyH_done (by kernel_rfl) ?_ _
  go_wp2_with fail
  refine bodyPost_ret (results_tmp2 rfl _ _ _) rfl ?_
  exact ⟨o, m, c, v, rfl, HVV.out, HCV.out.1, hB7, HCV.out.2⟩
/-- What it answers. -/
def ruseR (s : ByteArray) (x : Nat) (Ky : Nat → Nat) (w : World) (e : Ending) (w' : World) : Prop := ∃ o m c v, e = .returned (.tuple #[.slice o m c, v]) ∧ ((useOk s ∧ v = .int .i64 0) ∨ (¬ useOk s ∧ v = .int .i64 1)) ∧ CV w' o m (useT s x Ky) ∧ Below w.heap.size w w' ∧ (useOk s → m = 32)
set_option maxRecDepth 100000 in
set_option maxHeartbeats 8000000 in
theorem ruse_any (s : ByteArray) (x : Nat) (Ky : Nat → Nat) (w : World) (hx : x < 4294967296) (hs : s.size ≤ 9223372036854775807) (hK : ∀ i, i < 32 → Ky i < 256) : Calls Tryd.prog 20 #[.agg (tmL x Ky).toArray, .string s] w (ruseR s x Ky w) := by
  obtain ⟨b2, hb2⟩ : ∃ q, w.heap.size = q := ⟨_, rfl⟩
  obtain ⟨C, hC⟩ : ∃ q, (tmL x Ky).toArray = q := ⟨_, rfl⟩
  obtain ⟨w0, hw0⟩ : ∃ q, w.alloc (.cells C 60) = q := ⟨_, rfl⟩
  have hb0 : Below w.heap.size w w0 := by rw [← hw0]; exact (Below.refl _ _).alloc (Nat.le_refl _) _
  have hB : Blk w0 b2 C 60 := by rw [← hw0, ← hb2]; exact Blk.new _ _ _
  have HC : Hid (∀ A, Blk A b2 C 60 → Calls Tryd.prog 27 #[.slice (some ⟨b2, 1, none⟩) 32 32, .string s, .int .u32 (x : Int)] A fun e w' => ∃ o m c v, e = .returned (.tuple #[.slice o m c, v]) ∧ ((useOk s ∧ v = .int .i64 0) ∨ (¬ useOk s ∧ v = .int .i64 1)) ∧ CV w' o m (useT s x Ky) ∧ Below A.heap.size A w' ∧ (useOk s → m = 32)) := Lib.hid fun A hA => by
    have hA' : Blk A b2 (tmL x Ky).toArray 60 := by rw [hC]; exact hA
    have hBy := tm_bytes hA' hK
    by_cases hu : useOk s
    · refine (rkey_any (some ⟨b2, 1, none⟩) 32 Ky s x A hBy hu.1 hu.2 hx).mono ?_
      rintro e w' ⟨o, c, rfl, h3, h5⟩
      refine ⟨o, 32, c, _, rfl, .inl ⟨hu, rfl⟩, ⟨_, h3, fun e => (by obtain ⟨_, b, off, e2, _⟩ := h3 0 (by decide); rw [e] at e2; cases e2), by unfold useT; rw [if_pos hu]⟩, h5, fun _ => rfl⟩
    · refine (rkey_bad (some ⟨b2, 1, none⟩) 32 32 s _ A (by omega) hs (.inr (by unfold useOk at hu; omega))).mono ?_
      rintro e w' ⟨rfl, rfl⟩
      refine ⟨none, 0, 0, _, rfl, .inr ⟨hu, rfl⟩, by unfold useT; rw [if_neg hu]; exact CV.none _, Below.refl _ _, fun h => absurd h hu⟩
  have HB := Lib.hid hb0
  have HCELL : Hid (∀ A, Blk A b2 C 60 → A.cell? ⟨b2, 0, none⟩ = some (.int .u32 (x : Int))) := Lib.hid fun A hA => by
    have hA' : Blk A b2 (tmL x Ky).toArray 60 := by rw [hC]; exact hA
    exact tm_cell0 hA'
  have HRI : Hid True := Lib.hid trivial
  rw [hC]
  clear hx hs hK
  go_enter Tryd.func20, Tryd.ntmps20
  go_upto_region 1 with fail
  have hSB : Blk w0.drew b2 C 60 := hB
  have hbw : Below w.heap.size w w0.drew := HB.out.trans ((Below.refl _ _).drew.mono HB.out.size)
  clear hB hb0 hC hw0
  refine wp_region_held_drew (S := (fun A => Blk A b2 C 60)) (by kernel_rfl) ?_ (fun hHeld => ?_)
  · (try dsimp only)
    (first | assumption | (dsimp only; assumption))
  generalize w0.drew = W0 at *
  refine wpAnyH_take (i := 0) (oi := { dst := some 6, op := Go.Op.fieldAddr 60 (Go.Operand.tmp 2) 1, type := 0, pos := "ref.go:75", after := #[], guard := none }) (v := ?_) rfl (by kernel_rfl) (by kernel_rfl) (by kernel_rfl) (fun _ _ _ h => h) (Or.inl ⟨by rfl, ?_⟩) (by assumption) ?_
  rotate_left
  · intro wS hSw
    (try dsimp only at hSw)
    go_simp
    (try with_reducible rfl)
  (try simp only [Act.put, List.setIfInBounds_toArray, List.set_cons_zero, List.set_cons_succ])
  refine wpAnyH_take (i := 1) (oi := { dst := some 7, op := Go.Op.slice 22 (Go.Operand.tmp 6) none none none, type := 33, pos := "ref.go:75", after := #[{ on := 0, ground := Go.Ground.data }], guard := none }) (v := ?_) rfl (by kernel_rfl) (by kernel_rfl) (by kernel_rfl) (fun _ _ _ h => h) (Or.inl ⟨by rfl, ?_⟩) (by assumption) ?_
  rotate_left
  · intro wS hSw
    (try dsimp only at hSw)
    go_simp
    (try with_reducible rfl)
  (try simp only [Act.put, List.setIfInBounds_toArray, List.set_cons_zero, List.set_cons_succ])
  refine wpAnyH_take (i := 2) (oi := { dst := some 8, op := Go.Op.move (Go.Operand.tmp 1), type := 9, pos := "ref.go:75", after := #[], guard := none }) (v := ?_) rfl (by kernel_rfl) (by kernel_rfl) (by kernel_rfl) (fun _ _ _ h => h) (Or.inl ⟨by rfl, ?_⟩) (by assumption) ?_
  rotate_left
  · intro wS hSw
    (try dsimp only at hSw)
    go_simp
    (try with_reducible rfl)
  (try simp only [Act.put, List.setIfInBounds_toArray, List.set_cons_zero, List.set_cons_succ])
  refine wpAnyH_take (i := 3) (oi := { dst := some 9, op := Go.Op.fieldAddr 60 (Go.Operand.tmp 2) 0, type := 0, pos := "ref.go:75", after := #[], guard := none }) (v := ?_) rfl (by kernel_rfl) (by kernel_rfl) (by kernel_rfl) (fun _ _ _ h => h) (Or.inl ⟨by rfl, ?_⟩) (by assumption) ?_
  rotate_left
  · intro wS hSw
    (try dsimp only at hSw)
    go_simp
    (try with_reducible rfl)
  (try simp only [Act.put, List.setIfInBounds_toArray, List.set_cons_zero, List.set_cons_succ])
  refine wpAnyH_take (i := 4) (oi := { dst := some 10, op := Go.Op.load 39 (Go.Operand.tmp 9), type := 39, pos := "ref.go:75", after := #[{ on := 3, ground := Go.Ground.data }], guard := none }) (v := ?_) rfl (by kernel_rfl) (by kernel_rfl) (by kernel_rfl) (fun _ _ _ h => h) (Or.inl ⟨by rfl, ?_⟩) (by assumption) ?_
  rotate_left
  · intro wS hSw
    (have c9 : wS.cell? ⟨b2, 0, none⟩ = some (.int .u32 (x : Int)) := HCELL.out _ hSw; go_simp; (try with_reducible rfl))
  (try simp only [Act.put, List.setIfInBounds_toArray, List.set_cons_zero, List.set_cons_succ])
  refine wpAnyH_ready (rs := [5]) (by kernel_rfl) (by simp) ?_
  refine AllReadyH.cons (o := { dst := some 11, op := Go.Op.call { callee := Go.Callee.value (Go.Operand.func 27), args := #[Go.Operand.tmp 7, Go.Operand.tmp 8, Go.Operand.tmp 10], argTypes := #[33, 9, 39] }, type := 51, pos := "ref.go:75", after := #[{ on := 1, ground := Go.Ground.data }, { on := 2, ground := Go.Ground.data }, { on := 4, ground := Go.Ground.data }], guard := none }) rfl (fun K hK => ?_) AllReadyH.nil
  go_simp
  (refine (HC.out _ hSB).mono ?_; rintro e w7 ⟨o, m, c, v, rfl, hv, hcv, hbl, hm⟩; have HCV := Lib.hid (And.intro hcv hm); have HVV := Lib.hid hv; have hB7 := Below.trans hbw (hbl.mono (Below.size hbw)); have hS7 := Blk.below hSB hbl (Blk.lt hSB); clear hv hcv hbl hm hSB hbw; skip)
  (try go_wp2_with fail)
  refine hK.out _ _ ?_ (fun hHeld => ?_)
  · (try dsimp only)
    (first | assumption | (dsimp only; assumption))
  clear hK K
  (try simp only [Act.put, List.setIfInBounds_toArray, List.set_cons_zero, List.set_cons_succ])
  refine wpAnyH_take (i := 6) (oi := { dst := some 12, op := Go.Op.extract (Go.Operand.tmp 11) 0, type := 33, pos := "ref.go:75", after := #[{ on := 5, ground := Go.Ground.data }], guard := none }) (v := ?_) rfl (by kernel_rfl) (by kernel_rfl) (by kernel_rfl) (fun _ _ _ h => h) (Or.inl ⟨by rfl, ?_⟩) (by assumption) ?_
  rotate_left
  · intro wS hSw
    (try dsimp only at hSw)
    go_simp
    (try with_reducible rfl)
  (try simp only [Act.put, List.setIfInBounds_toArray, List.set_cons_zero, List.set_cons_succ])
  refine wpAnyH_take (i := 7) (oi := { dst := some 13, op := Go.Op.extract (Go.Operand.tmp 11) 1, type := 3, pos := "ref.go:75", after := #[{ on := 5, ground := Go.Ground.data }], guard := none }) (v := ?_) rfl (by kernel_rfl) (by kernel_rfl) (by kernel_rfl) (fun _ _ _ h => h) (Or.inl ⟨by rfl, ?_⟩) (by assumption) ?_
  rotate_left
  · intro wS hSw
    (try dsimp only at hSw)
    go_simp
    (try with_reducible rfl)
  (try simp only [Act.put, List.setIfInBounds_toArray, List.set_cons_zero, List.set_cons_succ])
  refine wpAnyH_take (i := 8) (oi := { dst := some 4, op := Go.Op.assign (Go.Operand.tmp 12), type := 33, pos := "ref.go:75", after := #[{ on := 6, ground := Go.Ground.data }, { on := 5, ground := Go.Ground.chain }, { on := 0, ground := Go.Ground.phase }, { on := 1, ground := Go.Ground.phase }, { on := 2, ground := Go.Ground.phase }, { on := 3, ground := Go.Ground.phase }, { on := 4, ground := Go.Ground.phase }, { on := 5, ground := Go.Ground.phase }, { on := 6, ground := Go.Ground.phase }, { on := 7, ground := Go.Ground.phase }], guard := none }) (v := ?_) rfl (by kernel_rfl) (by kernel_rfl) (by kernel_rfl) (fun _ _ _ h => h) (Or.inl ⟨by rfl, ?_⟩) (by assumption) ?_
  rotate_left
  · intro wS hSw
    (try dsimp only at hSw)
    go_simp
    (try with_reducible rfl)
  (try simp only [Act.put, List.setIfInBounds_toArray, List.set_cons_zero, List.set_cons_succ])
  refine wpAnyH_take (i := 9) (oi := { dst := some 5, op := Go.Op.assign (Go.Operand.tmp 13), type := 3, pos := "ref.go:75", after := #[{ on := 7, ground := Go.Ground.data }, { on := 8, ground := Go.Ground.chain }, { on := 0, ground := Go.Ground.phase }, { on := 1, ground := Go.Ground.phase }, { on := 2, ground := Go.Ground.phase }, { on := 3, ground := Go.Ground.phase }, { on := 4, ground := Go.Ground.phase }, { on := 5, ground := Go.Ground.phase }, { on := 6, ground := Go.Ground.phase }, { on := 7, ground := Go.Ground.phase }, { on := 8, ground := Go.Ground.phase }], guard := none }) (v := ?_) rfl (by kernel_rfl) (by kernel_rfl) (by kernel_rfl) (fun _ _ _ h => h) (Or.inl ⟨by rfl, ?_⟩) (by assumption) ?_
  rotate_left
  · intro wS hSw
    (try dsimp only at hSw)
    go_simp
    (try with_reducible rfl)
  (try simp only [Act.put, List.setIfInBounds_toArray, List.set_cons_zero, List.set_cons_succ])
  refine wpAnyH_done (by kernel_rfl) ?_ _
  go_wp2_with fail
  refine bodyPost_ret (results_tmp2 rfl _ _ _) rfl ?_
  exact ⟨o, m, c, v, rfl, HVV.out, HCV.out.1, hB7, HCV.out.2⟩
end Go.Proofs.YtloajfbehejehaaDoor
namespace Go.Proofs.YtloajfbehejehaaDoor
set_option linter.unusedVariables false
set_option linter.unusedSimpArgs false
open Go.RowKit
theorem rotate_ok (n cs : Nat) (oa : Option Addr) (N : Nat → Nat) (S : Nat → Nat → Nat) (Ky : Nat → Nat) (w : World) (hT : TL w oa n N S) (h : OkT n N) (hn : n < 16) :
    Calls Tryd.prog 7 #[.agg #[.slice oa n cs], .agg (rowC 32 Ky).toArray] w fun e w' => ∃ o c, e = .returned (.tuple #[.agg #[.slice o (n + 1) c], .nilIface]) ∧ TL w' o (n + 1) (fun i => i + 1) (catT n S (fun _ => Ky)) ∧ Below w.heap.size w w' := by
  refine (rotate_any n cs oa N S Ky w hT (fun i hi => by have := h.2.2 i hi; omega) (by omega)).mono ?_
  rintro e w' ⟨hb, ⟨_, h1⟩ | ⟨_, _, h1⟩ | ⟨_, _, o, c, rfl, h1, _⟩⟩
  · exact absurd h h1
  · omega
  · exact ⟨o, c, rfl, h1, hb⟩
theorem rotate_fr (n cs : Nat) (oa : Option Addr) (N : Nat → Nat) (S : Nat → Nat → Nat) (Ky : Nat → Nat) (w : World) (hT : TL w oa n N S) (h : OkT n N) (hn : n < 16) :
    Calls Tryd.prog 7 #[.agg #[.slice oa n cs], .agg (rowC 32 Ky).toArray] w fun e w' => ∃ o c, e = .returned (.tuple #[.agg #[.slice o (n + 1) c], .nilIface]) ∧ TL w' o (n + 1) (fun i => i + 1) (catT n S (fun _ => Ky)) ∧ (∀ a, o = some a → w.heap.size ≤ a.block) ∧ Below w.heap.size w w' := by
  refine (rotate_any n cs oa N S Ky w hT (fun i hi => by have := h.2.2 i hi; omega) (by omega)).mono ?_
  rintro e w' ⟨hb, ⟨_, h1⟩ | ⟨_, _, h1⟩ | ⟨_, _, o, c, rfl, h1, h2⟩⟩
  · exact absurd h h1
  · omega
  · exact ⟨o, c, rfl, h1, h2, hb⟩
theorem encode_ok (n cs : Nat) (oa : Option Addr) (N : Nat → Nat) (S : Nat → Nat → Nat) (w : World) (hT : TL w oa n N S) (h : OkT n N) (hS : ∀ i j, i < n → j < 32 → S i j < 256) :
    Calls Tryd.prog 9 #[.agg #[.slice oa n cs]] w fun e w' => ∃ o c, e = .returned (.tuple #[.slice o (3 + 32 * n) c, .nilIface]) ∧ Bytes w' o (3 + 32 * n) (encF n S) ∧ 3 + 32 * n ≤ c ∧ (o = none → 3 + 32 * n = 0) ∧ Below w.heap.size w w' := by
  refine (encode_any n cs oa N S w hT (fun i hi => by have := h.2.2 i hi; have := h.2.1; omega) hS (by have := h.2.1; omega)).mono ?_
  rintro e w' ⟨hb, ⟨_, h1⟩ | ⟨_, v, rfl, hG⟩⟩
  · exact absurd h h1
  · have hF : ∀ i, i < 3 + 32 * n → encF n S i < 256 := fun i hi => by
      unfold encF
      by_cases e0 : i = 0
      · rw [if_pos e0]; decide
      · rw [if_neg e0]
        by_cases e1 : i = 1
        · rw [if_pos e1]; decide
        · rw [if_neg e1]
          by_cases e2 : i = 2
          · rw [if_pos e2]; have := h.2.1; omega
          · rw [if_neg e2]; exact hS _ _ (by omega) (Nat.mod_lt _ (by decide))
    obtain ⟨oa', cp, rfl, hB, h2, h3⟩ := hG.bytesC hF
    exact ⟨oa', cp, rfl, hB, h2, h3, hb⟩
theorem active_ok (n cs : Nat) (oa : Option Addr) (N : Nat → Nat) (S : Nat → Nat → Nat) (w : World) (hT : TL w oa n N S) (h : OkT n N) :
    Calls Tryd.prog 18 #[.agg #[.slice oa n cs]] w fun e w' => e = .returned (.tuple #[.agg (tmL n (S (n - 1))).toArray, .nilIface]) ∧ Below w.heap.size w w' := by
  refine (active_any n cs oa N S w hT (fun i hi => by have := h.2.2 i hi; have := h.2.1; omega) (by have := h.2.1; omega)).mono ?_
  rintro e w' ⟨hb, ⟨h1, _⟩ | ⟨_, rfl⟩⟩
  · exact absurd h h1
  · exact ⟨rfl, hb⟩
theorem use_ok (s : ByteArray) (x : Nat) (Ky : Nat → Nat) (w : World) (hx : x < 4294967296) (hu : useOk s) (hK : ∀ i, i < 32 → Ky i < 256) (hg : GV w) :
    Calls Tryd.prog 19 #[.agg (tmL x Ky).toArray, .string s] w fun e w' => ∃ o c, e = .returned (.tuple #[.slice o 32 c, .nilIface]) ∧ Below w.heap.size w w' := by
  refine (use_any s x Ky w hx (by have := hu.2; omega) hK hg).mono ?_
  rintro e w' ⟨o, m, c, v, rfl, ⟨_, rfl⟩ | ⟨h, _⟩, _, hb, hm⟩
  · obtain rfl := hm hu
    exact ⟨o, c, rfl, hb⟩
  · exact absurd hu h
def kF (x : Nat) : Nat → Nat := fun i => if i = 0 then x else 0
theorem build_k5 (w : World) : (Instr.build 22 #[(0, .int .u8 5)]).run Tryd.prog w = .ok (.agg (rowC 32 (kF 5)).toArray) w := run_build w 22 _ _ (by kernel_rfl)
theorem build_k6 (w : World) : (Instr.build 22 #[(0, .int .u8 6)]).run Tryd.prog w = .ok (.agg (rowC 32 (kF 6)).toArray) w := run_build w 22 _ _ (by kernel_rfl)
theorem kF_lt {x : Nat} (hx : x < 256) (i : Nat) : kF x i < 256 := by unfold kF; split <;> omega
set_option maxRecDepth 100000 in
set_option maxHeartbeats 8000000 in
theorem sure_any (w : World) (hg : GV w) : Calls Tryd.prog 12 #[] w fun e w' => e = .returned (.bool true) ∧ Below w.heap.size w w' := by
  obtain ⟨F5, hF5⟩ : ∃ q, (rowC 32 (kF 5)).toArray = q := ⟨_, rfl⟩
  obtain ⟨F6, hF6⟩ : ∃ q, (rowC 32 (kF 6)).toArray = q := ⟨_, rfl⟩
  obtain ⟨S2, hS2⟩ : ∃ q, catT 1 (fun _ => kF 5) (fun _ => kF 6) = q := ⟨_, rfl⟩
  obtain ⟨C, hC⟩ : ∃ q, (tmL 2 (S2 (2 - 1))).toArray = q := ⟨_, rfl⟩
  have HK5 : Hid (∀ w, (Instr.build 22 #[(0, .int .u8 5)]).run Tryd.prog w = .ok (.agg F5) w) := Lib.hid (by rw [← hF5]; exact build_k5)
  have HK6 : Hid (∀ w, (Instr.build 22 #[(0, .int .u8 6)]).run Tryd.prog w = .ok (.agg F6) w) := Lib.hid (by rw [← hF6]; exact build_k6)
  have ho2 : OkT 2 (fun i => i + 1) := ⟨by omega, by omega, fun _ _ => rfl⟩
  have hS2l : ∀ i j, i < 2 → j < 32 → S2 i j < 256 := fun i j _ _ => by rw [← hS2]; unfold catT; split <;> exact kF_lt (by omega) _
  have HFI : Hid (∀ w, Calls Tryd.prog 6 #[.agg F5] w fun e w' => ∃ g, e = .returned (.agg #[.slice (some ⟨g, 0, none⟩) 1 1]) ∧ TL w' (some ⟨g, 0, none⟩) 1 (fun _ => 1) (fun _ => kF 5) ∧ Below w.heap.size w w') := Lib.hid fun w => by rw [← hF5]; exact first_any _ w
  have HRO : Hid (∀ w g, TL w (some ⟨g, 0, none⟩) 1 (fun _ => 1) (fun _ => kF 5) → Calls Tryd.prog 7 #[.agg #[.slice (some ⟨g, 0, none⟩) 1 1], .agg F6] w fun e w' => ∃ o c, e = .returned (.tuple #[.agg #[.slice o 2 c], .nilIface]) ∧ TL w' o 2 (fun i => i + 1) S2 ∧ Below w.heap.size w w') := Lib.hid fun w g hT => by
    rw [← hF6, ← hS2]; exact rotate_ok 1 1 _ _ _ _ w hT ⟨by omega, by omega, fun i hi => by show 1 = i + 1; omega⟩ (by omega)
  have HEN : Hid (∀ w o c, TL w o 2 (fun i => i + 1) S2 → Calls Tryd.prog 9 #[.agg #[.slice o 2 c]] w fun e w' => ∃ o c, e = .returned (.tuple #[.slice o 67 c, .nilIface]) ∧ Below w.heap.size w w') := Lib.hid fun w o c hT => (encode_ok 2 c o _ S2 w hT ho2 hS2l).mono fun e w' ⟨o, c, h1, _, _, _, h2⟩ => ⟨o, c, h1, h2⟩
  have HAC : Hid (∀ w o c, TL w o 2 (fun i => i + 1) S2 → Calls Tryd.prog 18 #[.agg #[.slice o 2 c]] w fun e w' => e = .returned (.tuple #[.agg C, .nilIface]) ∧ Below w.heap.size w w') := Lib.hid fun w o c hT => by rw [← hC]; exact active_ok 2 c o _ S2 w hT ho2
  have HUS : Hid (∀ W, Below w.heap.size w W → Calls Tryd.prog 19 #[.agg C, .string ⟨#[120]⟩] W fun e w' => ∃ o c, e = .returned (.tuple #[.slice o 32 c, .nilIface]) ∧ Below W.heap.size W w') := Lib.hid fun W hW => by rw [← hC]; exact use_ok _ 2 _ W (by omega) ⟨by decide, by decide⟩ (fun i hi => hS2l _ i (by omega) hi) (hg.later hW)
  have HCS : Hid (C.size = 33) := Lib.hid (by rw [← hC]; exact tm_size _ _)
  have HCI : Hid ((Tryd.prog.info? 55).map (·.size) = some C.size) := Lib.hid (by rw [HCS.out]; exact info_t1)
  have HCO : Hid (C.all (·.oneCell') = true) := Lib.hid (by rw [← hC]; exact tm_one _ _)
  have HC0 : Hid (∀ A b, Blk A b C 55 → A.cell? ⟨b, 0, none⟩ = some (.int .u32 2) ∧ A.cell? ⟨b, 1, none⟩ = some (.int .u8 6)) := Lib.hid fun A b hA => by
    rw [← hC, ← hS2] at hA
    exact ⟨tm_cell0 hA, by rw [Blk.cell hA]; rfl⟩
  clear hF5 hF6 hS2 hC ho2 hS2l hg
  go_enter Tryd.func12, Tryd.ntmps12
  go_upto_region 2 with (first | (refine wpList_value rfl (exec_buildM (parts := #[(0, .const (.int .u8 5))]) (ps := #[(0, .int .u8 5)]) (C := F5) rfl (by first | rfl | (simp [Act.eval]; done) | go_simp) HK5.out) ?_) | (refine wpList_value rfl (exec_buildM (parts := #[(0, .const (.int .u8 6))]) (ps := #[(0, .int .u8 6)]) (C := F6) rfl (by first | rfl | (simp [Act.eval]; done) | go_simp) HK6.out) ?_) | (go_at_call 6; refine (HFI.out _).mono ?_; rintro e w1 ⟨g, rfl, hT1, hb1⟩) | (go_at_call 7; refine (HRO.out _ _ hT1).mono ?_; rintro e w2 ⟨o2, cp2, rfl, hT2, hb2⟩))
  have hb02 : Below w.heap.size w w2 := hb1.trans (hb2.mono hb1.size)
  obtain ⟨w3, hw3⟩ : ∃ q, w2.alloc (.cells #[.slice o2 2 cp2] 26) = q := ⟨_, rfl⟩
  obtain ⟨b1, hq1⟩ : ∃ q, w2.heap.size = q := ⟨_, rfl⟩
  have hbl3 : Below w2.heap.size w2 w3 := by rw [← hw3]; exact (Below.refl _ _).alloc (Nat.le_refl _) _
  have hB1 : Blk w3 b1 #[.slice o2 2 cp2] 26 := by rw [← hw3, ← hq1]; exact Blk.new _ _ _
  have hT3 := hT2.later hbl3
  have hb03 := hb02.trans (hbl3.mono hb02.size)
  rw [hw3, hq1]
  have c1 : w3.cell? ⟨b1, 0, none⟩ = some (.slice o2 2 cp2) := by rw [Blk.cell hB1]; rfl
  clear hw3 hq1 hbl3 hT1 hT2 hb1 hb2 hb02
  go_upto_region 3 with (go_at_call 9; refine (HEN.out _ _ _ hT3).mono ?_; rintro e w4 ⟨o4, cp4, rfl, hb4⟩)
  have hB4 := Blk.below hB1 hb4 (Blk.lt hB1)
  have hT4 := hT3.later hb4
  have hb04 := hb03.trans (hb4.mono hb03.size)
  have c1' : w4.cell? ⟨b1, 0, none⟩ = some (.slice o2 2 cp2) := by rw [Blk.cell hB4]; rfl
  clear c1 hB1 hT3 hb4 hb03
  go_upto_region 4 with (first | (go_at_call 18; refine (HAC.out _ _ _ hT4).mono ?_; rintro e w5 ⟨rfl, hb5⟩; obtain ⟨b5, hqb5⟩ : ∃ y, w5.heap.size = y := ⟨_, rfl⟩; obtain ⟨wz, hwz⟩ : ∃ y, w5.alloc (.cells zeroT 55) = y := ⟨_, rfl⟩; have hbz : Below w5.heap.size w5 wz := (by rw [← hwz]; exact (Below.refl _ _).alloc (Nat.le_refl _) _); have hXz : Blk wz b5 zeroT 55 := (by rw [← hwz, ← hqb5]; exact Blk.new _ _ _); have HTZb5 : Hid (wz.there b5 0 C.size) := Lib.hid (hXz.there (by rw [zeroT_size, HCS.out]; exact Nat.le_refl _)); obtain ⟨w6, hw5⟩ : ∃ y, wz.setCells b5 0 C.toList = y := ⟨_, rfl⟩; have hOz : Own b5 wz w6 := (by rw [← hw5]; exact Own.setCells _ _ _); have HBw6 : Hid (Below w5.heap.size w5 w6) := Lib.hid (hbz.trans (hOz.below (by omega) hbz.size)); have HNw6 : Hid (Blk w6 b5 C 55) := Lib.hid (by rw [← hw5]; exact Blk.setCells hXz C.toList (by rw [zeroT_size, Array.length_toList]; exact HCS.out)); have HWw6 := Lib.hid hw5; clear hbz hXz hOz hw5) | (refine wpList_zero rfl rfl zero_t1 ?_; rw [hwz, hqb5]; (try simp only [Act.put, List.setIfInBounds_toArray, List.set_cons_zero, List.set_cons_succ])) | (refine wpList_store_mid rfl 55 (.tmp 5) (.tmp 24) rfl b5 0 C rfl rfl HTZb5.out HCI.out HCO.out ?_; rw [HWw6.out]))
  have hb06 : Below w.heap.size w w6 := (hb04.trans (hb5.mono hb04.size)).trans (HBw6.out.mono (Nat.le_trans hb04.size hb5.size))
  have hC6 := HC0.out _ _ HNw6.out
  have HR6 : Hid (w6.rangeAt b5 0 C.toList) := Lib.hid HNw6.out.rangeA
  have c50 := hC6.1
  have c51 := hC6.2
  clear hb5 hb04 hC6 hT4 hB4 c1'
  go_upto_region 5 with (first | (refine wpList_value rfl (exec_loadA (x := .tmp 5) (C := C) rfl rfl HR6.out Tryd.underlying55 rfl HCI.out) ?_) | (go_at_call 19; refine (HUS.out _ hb06).mono ?_; rintro e w7 ⟨o7, cp7, rfl, hb7⟩))
  have hb07 := hb06.trans (hb7.mono hb06.size)
  have c50' := cell_below hb7 c50
  have c51' := cell_below hb7 c51
  clear c50 c51 hb7 hb06
  go_wp2_with fail
  go_ret
  exact ⟨rfl, hb07⟩
end Go.Proofs.YtloajfbehejehaaDoor
namespace Go.Proofs.YtloajfbehejehaaDoor
set_option linter.unusedVariables false
set_option linter.unusedSimpArgs false
open Go.Deep Go.ChangeShapes Go.WideShapes Go.ChangeAt Go.RowKit
theorem arr_cells {H : Type} {enc : TypeId × Value → H} {P : Program} {W : World} {base : Nat} {spare : Nat → Bool} {held : Bool} {fuel : Nat} {T E : TypeId} {cs : List Value} {x : DataW H × List MemPlace}
    (hT : P.underlying T = some (.array 32 E)) (hE : P.underlying E = some (.int .u8)) (cT : P.cellsOf T = 32) (cE : P.cellsOf E = 1) (h : DataW.trod enc P W base spare held fuel T cs = some x) :
    ∃ f : Nat → Nat, (∀ i, f i < 256) ∧ cs = rowC 32 f := by
  obtain ⟨xs, m, _, _, hl, hn2, hel⟩ := DataW.trod_array hT h
  rw [cT] at hl
  have key : ∀ i, i < 32 → ∃ n : Nat, n < 256 ∧ cs[i]? = some (.int .u8 (n : Int)) := fun i hi => by
    have g := hel i hi
    rw [cE] at g
    have hl' : i < cs.length := by omega
    have t0 : (List.take 1 (List.drop (i * 1) cs)) = [cs[i]] := by
      rw [Nat.mul_one, List.drop_eq_getElem_cons hl']; rfl
    rw [t0, show xs[i]? = some (xs[i]'(by omega)) from by simp [hn2, hi]] at g
    obtain ⟨z, e1, _, w1⟩ := DataW.trod_int hE g
    have hx := bd_of_wf_u8 w1
    refine ⟨z.toNat, by omega, ?_⟩
    have e2 : cs[i] = .int .u8 z := by simpa using e1
    rw [show ((z.toNat : Nat) : Int) = z by omega, ← e2]
    simp [hl']
  refine ⟨fun i => match cs[i]? with | some (.int .u8 y) => y.toNat % 256 | _ => 0, fun i => ?_, ?_⟩
  · show (match cs[i]? with | some (.int .u8 y) => y.toNat % 256 | _ => 0) < 256
    split
    · exact Nat.mod_lt _ (by omega)
    · omega
  · refine List.ext_getElem? fun i => ?_
    by_cases hi : i < 32
    · obtain ⟨n, hn, e⟩ := key i hi
      rw [rowC_get _ hi, e]
      simp only [Int.toNat_natCast, Nat.mod_eq_of_lt hn]
    · rw [List.getElem?_eq_none (by omega), List.getElem?_eq_none (by rw [rowC_len]; omega)]
theorem row_arrs {H : Type} {enc : TypeId × Value → H} {P : Program} {W : World} {base : Nat} {held : Bool} {fuel : Nat} {TS T E : TypeId} {cs : List Value} {x : DataW H × List MemPlace}
    (hS : P.underlying TS = some (.slice T)) (hT : P.underlying T = some (.array 32 E)) (hE : P.underlying E = some (.int .u8)) (cT : P.cellsOf T = 32) (cE : P.cellsOf E = 1) (h : DataW.trod enc P W base (fun _ => true) held fuel TS cs = some x) :
    ∃ oa n cap, ∃ Q : Nat → Nat → Nat, cs = [.slice oa n cap] ∧ n ≤ cap ∧ cap ≤ maxLen ∧ (∀ i j, Q i j < 256) ∧ ∀ i, i < n → ∃ b off, oa = some ⟨b, off, none⟩ ∧ W.rangeAt b (off + i * 32) (rowC 32 (Q i)) := by
  rcases open_slice hS h with ⟨hcs, _⟩ | ⟨a, len, cap, m, n, D, Pl, hcs, _, hl, hm, hmm, _, hx⟩
  · exact ⟨none, 0, 0, fun _ _ => 0, hcs, Nat.le_refl _, by unfold maxLen; omega, fun _ _ => by show (0 : Nat) < 256; omega, fun i hi => absurd hi (Nat.not_lt_zero _)⟩
  · have hm' : m = cap := by simpa using hmm
    subst hm'
    have key : ∀ i, ∃ f : Nat → Nat, (∀ j, f j < 256) ∧ (i < m → W.cells? base (a.add (i * 32)) 32 = some (rowC 32 f)) := fun i => by
      by_cases hi : i < m
      · obtain ⟨cs', h1, h2⟩ := hx i hi
        rw [cT] at h1
        obtain ⟨f, hf, rfl⟩ := arr_cells hT hE cT cE h2
        exact ⟨f, hf, fun _ => h1⟩
      · exact ⟨fun _ => 0, fun _ => by show (0 : Nat) < 256; omega, fun h => absurd h hi⟩
    refine ⟨some a, len, m, fun i => (key i).choose, hcs, hl, hm, fun i => (key i).choose_spec.1, fun i hi => ?_⟩
    have h1 := (key i).choose_spec.2 (by omega)
    have hc := (World.cells?_some h1).2.2
    obtain ⟨b, off, spot⟩ := a
    have c0 := (World.cells?_some ((key 0).choose_spec.2 (by omega))).2.2 0 (by omega)
    rw [rowC_get _ (by omega)] at c0
    have hspot : spot = none := by
      have := World.cell?_spot c0
      simpa [Addr.add] using this
    subst hspot
    refine ⟨b, off, rfl, fun j v hv => ?_⟩
    have hj : j < 32 := by have := (List.getElem?_eq_some_iff.1 hv).1; rwa [rowC_len] at this
    have h2 := hc j hj
    rw [hv, add_add] at h2
    have ha : (Addr.mk b off none).add (i * 32 + j) = ⟨b, off + i * 32 + j, none⟩ := by
      unfold Addr.add; split
      · rename_i hk0; rw [show off + i * 32 + j = off by omega]
      · rw [← Nat.add_assoc]
    rw [ha] at h2; exact h2
end Go.Proofs.YtloajfbehejehaaDoor
