/- A ring as bytes. -/
import Derived.Shelf.Abstract
import Derived.Test.YtncfocjmdecapaaGreatDoorZB0
import Derived.Test.YtncfocjmdecapaaGreatDoorZS1
import Derived.Test.YtncfocjmdecapaaGreatDoorZS2
import Derived.Test.YtncfocjmdecapaaGreatDoorZSh4
import Derived.Test.YtncfocjmdecapaaGreatDoorZA0
import Derived.Test.YtncfocjmdecapaaGreatDoorZS5
import Derived.Test.YtncfocjmdecapaaGreatDoorZSh7
import Derived.Test.YtncfocjmdecapaaGreatDoorZS8
import Derived.Test.YtncfocjmdecapaaGreatDoorZHm1
import Derived.Test.YtncfocjmdecapaaGreatDoorZHm2
import Derived.Test.YtncfocjmdecapaaGreatDoorZR0
import Derived.Test.YtncfocjmdecapaaGreatDoorZK0
import Derived.Test.YtncfocjmdecapaaGreatDoorZK1
import Derived.Test.YtncfocjmdecapaaGreatDoorZK4
namespace Go.Proofs.YtncfocjmdecapaaGreatDoor
set_option linter.unusedVariables false
set_option linter.unusedSimpArgs false
open Go.RowKit
/-- A function that ranges over one, from its body. -/
theorem calls_marks {P : Program} {f : FuncId} {fn : Func} {c : Code} {args : Array Value} {w : World} {R : Ending → World → Prop} (hf : P.funcs[f]? = some fn) (hb : fn.body = some c)
    (h : c.wp P (bodyPostM Fence.wide 0 P fn R) { tmps := args ++ Array.replicate (fn.ntmps - args.size) undef, defers := [] } w) : Calls P f args w R :=
  (callsIn_wide (n := 0)).1 (callsIn_of_wp_marks hf hb trivial ((wpIn_wide (n := 0)).2 h) rfl)
theorem Turned.grow {B base n : Nat} {A A' : World} {v : Value} {f : Nat → Nat} (h : Turned B A A') (hG : Grow A base v n f) : Grow A' base v n f := by
  obtain ⟨hl, h1 | ⟨g, cap, cur, h1, h2, h3, h4⟩⟩ := hG
  · exact ⟨hl, .inl h1⟩
  · exact ⟨hl, .inr ⟨g, cap, cur, h1, h2, h.block h3, h4⟩⟩
theorem keeps_app {B base n : Nat} {W W1 W2 : World} {v : Value} {f : Nat → Nat} (hG : Grow W base v n f) (hb : Below W.heap.size W W1) (hg : W1.grownBy W2 v.ownBlock) : Keeps B W W2 := by
  refine ⟨Nat.le_trans hb.size hg.size, fun k o _ hk ho => ?_⟩
  have hlt := lt_of_block hk
  refine (hg.block k (Nat.lt_of_lt_of_le hlt hb.size) (fun e => ?_)).trans ((hb.block k hlt).trans hk)
  rcases hG.2 with ⟨rfl, _⟩ | ⟨g, cap, cur, rfl, _, h3, _⟩
  · cases e
  · cases e
    rw [h3] at hk; cases hk; cases ho
theorem own_put (W : World) (D : Nat) (o : Obj) : Own D W (W.putObj D o) := ⟨rfl, rfl, rfl, by simp, fun k _ hn => World.putObj_heap_other hn⟩
set_option maxHeartbeats 1000000 in
theorem keys_any (oa : Option Addr) (n cs : Nat) (w : World) : Calls Tryz.prog 39 #[.agg #[.slice oa n cs]] w fun e w' => e = .returned (.func (.func 60) #[] #[.pointer (some ⟨w.heap.size, 0, none⟩)]) ∧ w' = w.alloc (.cells #[.slice oa n cs] 32) := by
  go_enter Tryz.func39, Tryz.ntmps39
  go_wp2_with fail
  go_ret
  exact ⟨rfl, rfl⟩
/-- A ring's bytes. -/
def encF (n : Nat) (S : Nat → Nat → Nat) : Nat → Nat := fun i => if i = 0 then 107 else if i = 1 then 114 else if i = 2 then n else S ((i - 3) / 32) ((i - 3) % 32)
/-- What Encode answers. -/
def EncR (n : Nat) (N : Nat → Nat) (S : Nat → Nat → Nat) (w : World) (e : Ending) (w' : World) : Prop := Below w.heap.size w w' ∧
  ((e = .returned (.tuple #[.slice none 0 0, .iface 53 (.int .i64 1)]) ∧ ¬ OkT n N) ∨ (OkT n N ∧ ∃ v, e = .returned (.tuple #[v, .nilIface]) ∧ Grow w' w.heap.size v (3 + 32 * n) (encF n S)))
/-- Between two rounds: the row, the ring that the iterator reads. -/
structure EV (n cs : Nat) (oa : Option Addr) (S : Nat → Nat → Nat) (b5 Bn : Nat) (w : World) (i : Nat) (A : World) : Prop where
  row : ∃ v, Blk A b5 #[v] 24 ∧ Grow A w.heap.size v (3 + 32 * i) (encF n S) ∧ (∀ k, v.ownBlock = some k → k ≠ b5 ∧ k ≠ Bn)
  rng : Blk A Bn #[.slice oa n cs] 32
  bel : Below w.heap.size w A
theorem EV.drew {n cs b5 Bn i : Nat} {oa : Option Addr} {S : Nat → Nat → Nat} {w A : World} (h : EV n cs oa S b5 Bn w i A) : EV n cs oa S b5 Bn w i A.drew := ⟨h.row, h.rng, h.bel.drew⟩
theorem EV.turned {n cs b5 Bn i B : Nat} {oa : Option Addr} {S : Nat → Nat → Nat} {w A A' : World} (h : EV n cs oa S b5 Bn w i A) (hT : Turned B A A') (hB : w.heap.size ≤ B) : EV n cs oa S b5 Bn w i A' := by
  obtain ⟨v, h1, h2, h3⟩ := h.row
  exact ⟨⟨v, hT.blk h1, hT.grow h2, h3⟩, hT.blk h.rng, h.bel.trans (hT.below.mono hB)⟩
theorem EV.later {n cs b5 Bn i : Nat} {oa : Option Addr} {S : Nat → Nat → Nat} {w A A' : World} (h : EV n cs oa S b5 Bn w i A) (hb : Below A.heap.size A A') : EV n cs oa S b5 Bn w i A' := by
  obtain ⟨v, h1, h2, h3⟩ := h.row
  exact ⟨⟨v, Blk.below h1 hb (Blk.lt h1), h2.later hb, h3⟩, Blk.below h.rng hb (Blk.lt h.rng), h.bel.trans (hb.mono h.bel.size)⟩
theorem zip_two (p q : Tmp) (x y : Value) (T : Array Value) : ((#[p, q] : Array Tmp).zip #[x, y]).foldl (fun t (p, v) => t.setIfInBounds p v) T = (T.setIfInBounds p x).setIfInBounds q y := by simp
theorem enc_three {w1 : World} {n base : Nat} (S : Nat → Nat → Nat) (hb : base ≤ w1.heap.size) : Grow (w1.alloc (.cells #[.int .u8 107, .int .u8 114, .int .u8 (n : Int)] 5)) base (.slice (some ⟨w1.heap.size, 0, none⟩) 3 3) 3 (encF n S) :=
  ⟨rowC_len _ _, .inr ⟨w1.heap.size, 3, #[.int .u8 107, .int .u8 114, .int .u8 (n : Int)], rfl, hb, Blk.new w1 _ _, Nat.le_refl _, by unfold maxLen; omega, rfl, rfl⟩⟩
theorem enc_cat (n i : Nat) (S : Nat → Nat → Nat) : ∀ q, q < 3 + 32 * i + 32 → catF (3 + 32 * i) (encF n S) (S i) q = encF n S q := fun q hq => by
  unfold catF
  by_cases e : q < 3 + 32 * i
  · rw [if_pos e]
  · rw [if_neg e]
    unfold encF
    rw [if_neg (by omega), if_neg (by omega), if_neg (by omega), show (q - 3) / 32 = i by omega, show (q - 3) % 32 = q - (3 + 32 * i) by omega]
theorem Grow.someS {w : World} {base n : Nat} {v : Value} {f : Nat → Nat} (h : Grow w base v n f) (hn : 0 < n) : ∃ g cp, v = .slice (some ⟨g, 0, none⟩) n cp := by
  rcases h.2 with ⟨_, h0⟩ | ⟨g, cap, cur, hv, _⟩
  · omega
  · exact ⟨g, cap, hv⟩
set_option maxRecDepth 100000 in
set_option maxHeartbeats 8000000 in
theorem encode_any (n cs : Nat) (oa : Option Addr) (N : Nat → Nat) (S : Nat → Nat → Nat) (w : World) (hT : TL w oa n N S) (hN : ∀ i, i < n → N i < 4294967296) (hS : ∀ i j, i < n → j < 32 → S i j < 256) (hn : n < 10000) :
    Calls Tryz.prog 22 #[.agg #[.slice oa n cs]] w (EncR n N S w) := by
  obtain ⟨w0, hw0⟩ : ∃ q, w.alloc (.cells #[.slice oa n cs] 32) = q := ⟨_, rfl⟩
  have hb0 : Below w.heap.size w w0 := by rw [← hw0]; exact (Below.refl _ _).alloc (Nat.le_refl _) _
  have hR : Blk w0 w.heap.size #[.slice oa n cs] 32 := by rw [← hw0]; exact Blk.new _ _ _
  have HCK := Lib.hid (check_any n cs oa N S w0 (hT.later hb0) hN (by omega))
  have HB0 := Lib.hid hb0
  have HR0 := Lib.hid hR
  have HT := Lib.hid hT
  have HSS := Lib.hid hS
  have HNN := Lib.hid hn
  have c2 : w0.cell? ⟨w.heap.size, 0, none⟩ = some (.slice oa n cs) := by rw [Blk.cell hR]; rfl
  clear hb0 hR hT hN hS hn
  refine calls_marks Tryz.func22 rfl ?_
  simp only [Tryz.ntmps22, List.size_toArray, List.length_cons, List.length_nil, Nat.reduceAdd, Nat.reduceSub, Array.replicate_succ, Array.replicate_zero, List.push_toArray, List.append_toArray, List.nil_append, List.cons_append]
  go_wp2_with fail
  refine HCK.out.mono ?_
  rintro e w1 ⟨(⟨rfl, hok⟩ | ⟨rfl, hno⟩), hb1⟩
  · have HOK := Lib.hid hok
    have HR1 := Lib.hid (Blk.below HR0.out hb1 (Blk.lt HR0.out))
    have HB1 := Lib.hid (HB0.out.trans (hb1.mono HB0.out.size))
    have c2 : w1.cell? ⟨w.heap.size, 0, none⟩ = some (.slice oa n cs) := by rw [Blk.cell HR1.out]; rfl
    have k8 : IntKind.u8.wrap (n : Int) = (n : Int) := IntWalk.u8_in _ (by have := hok.2.1; omega)
    clear hb1 hok hw0 HR0 HCK
    go_upto_region 5 with fail
    obtain ⟨w3, hw3⟩ : ∃ q, (w1.alloc (.cells #[.int .u8 107, .int .u8 114, .int .u8 (n : Int)] 5)).alloc (.cells #[.slice (some ⟨w1.heap.size, 0, none⟩) 3 3] 24) = q := ⟨_, rfl⟩
    obtain ⟨b5, hb5⟩ : ∃ q, w1.heap.size + 1 = q := ⟨_, rfl⟩
    have hsz1 := HB1.out.size
    have hb3 : Below w1.heap.size w1 w3 := by rw [← hw3]; exact ((Below.refl _ _).alloc (Nat.le_refl _) _).alloc (by simp) _
    have hV3 : Blk w3 b5 #[.slice (some ⟨w1.heap.size, 0, none⟩) 3 3] 24 := by rw [← hw3, ← hb5]; simpa using Blk.new (w1.alloc _) #[.slice (some ⟨w1.heap.size, 0, none⟩) 3 3] 24
    have hG3 : Grow w3 w.heap.size (.slice (some ⟨w1.heap.size, 0, none⟩) 3 3) (3 + 32 * 0) (encF n S) := by rw [← hw3]; exact (enc_three S hsz1).later ((Below.refl _ _).alloc (Nat.le_refl _) _)
    have hl5 := Blk.lt hV3
    rw [hw3, hb5]
    have c2' : w3.cell? ⟨w.heap.size, 0, none⟩ = some (.slice oa n cs) := by rw [Blk.cell (Blk.below HR1.out hb3 (Blk.lt HR1.out))]; rfl
    obtain ⟨w4, hw4⟩ : ∃ q, w3.alloc (.cells #[.slice oa n cs] 32) = q := ⟨_, rfl⟩
    have hE4 : EV n cs oa S b5 w3.heap.size w 0 w4 := by
      have hb4 : Below w3.heap.size w3 w4 := by rw [← hw4]; exact (Below.refl _ _).alloc (Nat.le_refl _) _
      refine ⟨⟨_, Blk.below hV3 hb4 hl5, hG3.later hb4, fun k hk => ?_⟩, by rw [← hw4]; exact Blk.new _ _ _, (HB1.out.trans (hb3.mono hsz1)).trans (hb4.mono (Nat.le_trans hsz1 hb3.size))⟩
      have hk' : w1.heap.size = k := by simpa [Value.ownBlock] using hk
      omega
    have HE4 := Lib.hid hE4
    clear hb3 hV3 hG3 hE4 hw3
    go_wp2_with (go_at_call 39; refine (keys_any oa n cs _).mono ?_; rintro e w' ⟨rfl, rfl⟩; rw [hw4])
    refine wp_rangeS (gf := 60) (lb := #[.pointer (some ⟨w3.heap.size, 0, none⟩)]) (N := n) rfl (enters_of Tryz.func60 (by kernel_rfl) rfl) (keys_seq w3.heap.size oa n cs N S (by have := HNN.out; omega)) (fun _ => rfl)
      (EV n cs oa S b5 w3.heap.size w) (EV n cs oa S b5 w3.heap.size w) (fun _ _ => False) ?hG (fun i A h => h.drew) (fun c A h => h) (fun i A B _ h hr => h.later hr) (fun i A B _ hr => Keeps.of_below hr) (fun i A B hT h => h.turned hT ?hs1) (fun i A B hT h => h.turned hT ?hs2) (fun c A B _ h => h) ?h0
      (fun i a' A => ∃ b7, a' = { tmps := #[.agg #[.slice oa n cs], .pointer (some ⟨w.heap.size, 0, none⟩), .slice none 0 0, .nilIface, .nilIface, .pointer (some ⟨b5, 0, none⟩), undef, .pointer (some ⟨b7, 0, none⟩), .agg #[.slice oa n cs], .nilIface, .nilIface, .bool false, undef, .pointer (some ⟨w.heap.size, 0, none⟩), .slice oa n cs, .int .i64 (n : Int), .int .u8 (n : Int), .slice (some ⟨w1.heap.size, 0, none⟩) 3 3, .agg #[.slice oa n cs], .func (.func 60) #[] #[.pointer (some ⟨w3.heap.size, 0, none⟩)], .int .u32 (N i : Int), .agg (rowC 32 (S i)).toArray, undef, undef, undef, undef], defers := [] } ∧ EV n cs oa S b5 w3.heap.size w i A ∧ Blk A b7 (rowC 32 (S i)).toArray 22) ?hIt2 ?assign ?body ?done (fun D c W _ h _ => h.elim)
    case hG => exact fun i A h => ⟨h.rng, HT.out.later h.bel⟩
    case hs1 => exact HE4.out.bel.size
    case hs2 => exact HE4.out.bel.size
    case h0 => exact fun A hA _ => HE4.out.later hA
    case hIt2 => rintro i a A B hT ⟨b7, rfl, h1, h2⟩; exact ⟨b7, rfl, h1.turned hT HE4.out.bel.size, hT.blk h2⟩
    case assign =>
      intro l i W K _ hlt hE hK
      obtain ⟨F, hF⟩ : ∃ q, (rowC 32 (S i)).toArray = q := ⟨_, rfl⟩
      have HSZ : Hid (F.size = 32) := Lib.hid (by rw [← hF, List.size_toArray, rowC_len])
      have HON : Hid (F.all (·.oneCell') = true) := Lib.hid (by rw [← hF]; exact one32 _)
      have HIS : Hid ((Tryz.prog.info? 22).map (·.size) = some F.size) := Lib.hid (by rw [HSZ.out]; exact info_a32)
      rw [show EKr N S i = #[.int .u32 (N i : Int), .agg F] from by unfold EKr; rw [hF]]
      have HKK := Lib.hid hK
      have HEE := Lib.hid hE
      have HFF := Lib.hid hF
      obtain ⟨b7, hqb7⟩ : ∃ y, W.heap.size = y := ⟨_, rfl⟩
      obtain ⟨wz, hwz⟩ : ∃ y, W.alloc (.cells zeroA 22) = y := ⟨_, rfl⟩
      have hbz : Below W.heap.size W wz := by rw [← hwz]; exact (Below.refl _ _).alloc (Nat.le_refl _) _
      have hXz : Blk wz b7 zeroA 22 := by rw [← hwz, ← hqb7]; exact Blk.new _ _ _
      have HTZb7 : Hid (wz.there b7 0 F.size) := Lib.hid (hXz.there (by rw [zeroA_size, HSZ.out]; exact Nat.le_refl _))
      obtain ⟨w5, hw5⟩ : ∃ y, wz.setCells b7 0 F.toList = y := ⟨_, rfl⟩
      have hOz : Own b7 wz w5 := by rw [← hw5]; exact Own.setCells _ _ _
      have HBw5 : Hid (Below W.heap.size W w5) := Lib.hid (hbz.trans (hOz.below (by omega) hbz.size))
      have HNw5 : Hid (Blk w5 b7 F 22) := Lib.hid (by rw [← hw5]; exact Blk.setCells hXz F.toList (by rw [zeroA_size, Array.length_toList]; exact HSZ.out))
      have HWw5 := Lib.hid hw5
      clear hbz hXz hOz hw5
      clear hE hF hK
      refine region_wd (fun ⟨_, _, h⟩ => h) rfl ?_
      rw [zip_two]
      simp only [List.setIfInBounds_toArray, List.set_cons_zero, List.set_cons_succ]
      go_wp2_with (first | (refine wpList_zero rfl rfl zero_a32 ?_; rw [hwz, hqb7]; (try simp only [Act.put, List.setIfInBounds_toArray, List.set_cons_zero, List.set_cons_succ])) | (refine wpList_store_mid rfl 22 (.tmp 7) (.tmp 21) rfl b7 0 F rfl rfl HTZb7.out HIS.out HON.out ?_; rw [HWw5.out]))
      exact HKK.out _ _ (Keeps.of_below HBw5.out) ⟨b7, by rw [HFF.out]; rfl, HEE.out.later HBw5.out, by rw [HFF.out]; exact HNw5.out⟩
    case body =>
      rintro l i a W hl hi ⟨b7, rfl, hE, hB7⟩
      obtain ⟨v, hV0, hG0, hne⟩ := hE.row
      have hOB : Bytes W (some ⟨b7, 0, none⟩) 32 (S i) := RB.bytes (t := 22) hB7 (fun j hj => HSS.out i j hi hj)
      have hszW := hE.bel.size
      have HE := Lib.hid hE
      have HNE := Lib.hid hne
      have HI := Lib.hid (show i < n ∧ n < 10000 from ⟨hi, HNN.out⟩)
      clear hE hne hi hB7
      refine wpIn_block ?_
      refine regionD_wd (S := (fun _ => True)) (fun ⟨_, _, h⟩ => h) rfl (by kernel_rfl) trivial (fun hHeld => ?_)
      have HWD : Hid (W.drew = W.drew) := Lib.hid rfl
      refine wpAnyH_take (i := 1) (oi := { dst := some 23, op := Go.Op.slice 22 (Go.Operand.tmp 7) none none none, type := 24, pos := "keyring.go:90", after := #[], guard := none }) (v := ?_) rfl (by kernel_rfl) (by kernel_rfl) (by kernel_rfl) (fun _ _ _ h => h) (Or.inl ⟨by rfl, ?_⟩) (by assumption) ?_
      rotate_left
      · intro wS hSw
        (try dsimp only at hSw)
        go_simp
        (try with_reducible rfl)
      (try simp only [Act.put, List.setIfInBounds_toArray, List.set_cons_zero, List.set_cons_succ])
      refine wpAnyH_ready (rs := [0]) (by kernel_rfl) (by simp) ?_
      refine AllReadyH.cons (o := { dst := some 22, op := Go.Op.load 24 (Go.Operand.tmp 5), type := 24, pos := "keyring.go:90", after := #[], guard := none }) rfl (fun K hK => ?_) AllReadyH.nil
      (have c5 : W.cell? ⟨b5, 0, none⟩ = some v := (by rw [Blk.cell hV0]; rfl); have c5 : W.drew.cell? ⟨b5, 0, none⟩ = some v := c5; go_simp; clear c5; skip)
      refine hK.out _ _ ?_ (fun hHeld => ?_)
      · (try dsimp only)
        (try trivial)
      clear hK K
      (try simp only [Act.put, List.setIfInBounds_toArray, List.set_cons_zero, List.set_cons_succ])
      refine wpAnyH_ready (rs := [2]) (by kernel_rfl) (by simp) ?_
      refine AllReadyH.cons (o := { dst := some 24, op := Go.Op.call { callee := Go.Callee.builtin Go.Builtin.append, args := #[Go.Operand.tmp 22, Go.Operand.tmp 23], argTypes := #[24, 24] }, type := 24, pos := "keyring.go:90", after := #[{ on := 0, ground := Go.Ground.data }, { on := 1, ground := Go.Ground.data }], guard := none }) rfl (fun K hK => ?_) AllReadyH.nil
      (refine step_appO rfl (.tmp 22) (.tmp 23) rfl w.heap.size v (3 + 32 * i) 32 32 (some ⟨b7, 0, none⟩) (encF n S) (S i) W.drew rfl hG0 rfl (fun e => by cases e) hOB (by have := HI.out; omega) hszW ?_; intro v2 W2 hG2 hg2 hob2; have hg2 : W.grownBy W2 v.ownBlock := ⟨hg2.os, hg2.tape, hg2.output, hg2.size, hg2.block⟩)
      refine hK.out _ _ ?_ (fun hHeld => ?_)
      · (try dsimp only)
        (try trivial)
      clear hK K
      (try simp only [Act.put, List.setIfInBounds_toArray, List.set_cons_zero, List.set_cons_succ])
      refine wpAnyH_ready (rs := [3]) (by kernel_rfl) (by simp) ?_
      refine AllReadyH.cons (o := { dst := none, op := Go.Op.store 24 (Go.Operand.tmp 5) (Go.Operand.tmp 24), type := 0, pos := "keyring.go:90", after := #[{ on := 2, ground := Go.Ground.data }, { on := 2, ground := Go.Ground.chain }, { on := 0, ground := Go.Ground.phase }, { on := 1, ground := Go.Ground.phase }, { on := 2, ground := Go.Ground.phase }], guard := none }) rfl (fun K hK => ?_) AllReadyH.nil
      (obtain ⟨g2, cp2, hv2⟩ := hG2.someS (by omega); subst hv2; have hbW2 : Below w.heap.size W W2 := grow_bel hG0 hszW hg2; have hne5 : b5 < W.heap.size := Blk.lt hV0; have hV2 : Blk W2 b5 #[v] 24 := (hg2.block b5 hne5 (fun e => (HNE.out b5 e.symm).1 rfl)).trans hV0; have c5 : W2.cell? ⟨b5, 0, none⟩ = some v := (by rw [Blk.cell hV2]; rfl); have f5 : W2.frozen? ⟨b5, 0, none⟩ = false := Blk.free hV2 _; go_simp; clear c5 f5; skip)
      refine hK.out _ _ ?_ (fun hHeld => ?_)
      · (try dsimp only)
        (try trivial)
      clear hK K
      (try simp only [Act.put, List.setIfInBounds_toArray, List.set_cons_zero, List.set_cons_succ])
      refine wpAnyH_done (by kernel_rfl) ?_ _
      have hO := (Own.refl b5 W2).set 0 (.slice (some ⟨g2, 0, none⟩) (3 + 32 * i + 32) cp2)
      have hlR := Blk.lt HE.out.rng
      have hRg2 : Blk W2 w3.heap.size #[.slice oa n cs] 32 := (hg2.block _ hlR (fun e => (HNE.out _ e.symm).2 rfl)).trans HE.out.rng
      have hne2 : ∀ k, Value.ownBlock (.slice (some ⟨g2, 0, none⟩) (3 + 32 * i + 32) cp2) = some k → k ≠ b5 ∧ k ≠ w3.heap.size := fun k hk => by
        rcases hob2 with e | e
        · exact HNE.out k (e.symm.trans hk)
        · rw [e] at hk; cases hk
          exact ⟨fun e' => Nat.lt_irrefl _ (e' ▸ hne5), fun e' => Nat.lt_irrefl _ (e' ▸ hlR)⟩
      refine ⟨(keeps_app hG0 (Below.refl _ W) hg2).trans (Keeps.of_own hO hV2), ⟨⟨_, hV2.set 0 _, ?_, hne2⟩, hO.blk hRg2 (by omega), HE.out.bel.trans (hbW2.trans (hO.below ?_ (Nat.le_trans hszW hg2.size)))⟩⟩
      · exact ((hG2.congr (enc_cat n i S)).ownN hO fun k hk => (hne2 k hk).1)
      · have := HE4.out.bel.size; omega
    case done =>
      intro D A hD hP hK
      obtain ⟨v, hV, hG, hne⟩ := hP.row
      have c5 : A.cell? ⟨b5, 0, none⟩ = some v := by rw [Blk.cell hV]; rfl
      have HP := Lib.hid hP
      have HG := Lib.hid hG
      have HKD := Lib.hid hK
      have HD := Lib.hid hD
      clear hP hV hG hK hD hne
      go_wp2_with fail
      have hlt := lt_of_block HKD.out
      have hs4 := HE4.out.bel.size
      have hd := HD.out
      have hO : Own D A (A.putObj D (.deferred none)) := own_put A D _
      refine ⟨by simp, .inl ⟨_, _, rfl, run_takeDeferred HKD.out, ?_⟩⟩
      refine ⟨_, results_tmp2 rfl _ _ _, HP.out.bel.trans (hO.below (by omega) HP.out.bel.size), .inr ⟨HOK.out, v, rfl, HG.out.ownN hO fun k hk e => ?_⟩⟩
      subst e
      rcases HG.out.2 with ⟨e1, _⟩ | ⟨g', cap', cur, e1, _, h3, _⟩
      · rw [e1] at hk; cases hk
      · rw [e1] at hk; cases hk
        have := HKD.out
        rw [h3] at this; cases this
  · have HB1 := Lib.hid (HB0.out.trans (hb1.mono HB0.out.size))
    have HNO := Lib.hid hno
    clear hb1 hno hw0 HR0 HCK
    go_wp2_with fail
    exact ⟨_, results_tmp2 rfl _ _ _, HB1.out, .inl ⟨rfl, HNO.out⟩⟩
end Go.Proofs.YtncfocjmdecapaaGreatDoor
