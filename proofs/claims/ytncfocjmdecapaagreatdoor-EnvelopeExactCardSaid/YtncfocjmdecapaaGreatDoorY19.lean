/- Part of the proof: what stands here serves the walks of the functions that the statement calls. -/
import Derived.Test.YtncfocjmdecapaaGreatDoorY13
namespace Go.Proofs.YtncfocjmdecapaaGreatDoor
set_option linter.unusedVariables false
set_option linter.unusedSimpArgs false
open Go.RowKit
def exS (f : Nat → Nat) (n : Nat) : Nat := if n < 8 then kwN f n else exK f n (n - 8) ^^^ lastN (exK f n) n
theorem exK_keep (f : Nat → Nat) {i : Nat} : ∀ n, i < n → exK f n i = exS f i
 | 0, h => by omega
 | n + 1, h => by
  show upd (exK f n) n (exS f n) i = _
  by_cases e : i = n
  ·rw [e]; exact if_pos rfl
  ·exact (if_neg e).trans (exK_keep f n (by omega))
theorem exK_lo (f : Nat → Nat) {i : Nat} (h : i < 8) : exK f 60 i = kwN f i := (exK_keep f 60 (by omega)).trans (if_pos h)
theorem ref_mv : ∀ i, i < 16 → (i + 4 * (i % 4)) % 16 = 4 * ((i / 4 + i % 4) % 4) + i % 4 := by decide
def dmx (f : Nat → Nat) : Nat → Nat := fun i => dbl (f i) ^^^ (dbl (f (i / 4 * 4 + (i + 1) % 4)) ^^^ f (i / 4 * 4 + (i + 1) % 4)) ^^^ f (i / 4 * 4 + (i + 2) % 4) ^^^ f (i / 4 * 4 + (i + 3) % 4)
theorem dmx_eq (f : Nat → Nat) (i : Nat) : dmx f i = mxA f i := by
 unfold dmx mxA
 rw [show i / 4 * 4 = 4 * (i / 4) by omega, show (i + 1) % 4 = (i % 4 + 1) % 4 by omega, show (i + 2) % 4 = (i % 4 + 2) % 4 by omega, show (i + 3) % 4 = (i % 4 + 3) % 4 by omega,
  show 4 * (i / 4) + i % 4 = i by omega]
 simp only [Nat.xor_assoc]
theorem numB_shift4 (n k : Nat) (hk : k < 4) : numB n 4 k = (n >>> (8 * (3 - k))) % 2 ^ 8 := by
 unfold numB
 rw [Nat.shiftRight_eq_div_pow, Nat.pow_mul]
theorem numB_xor4 (a b k : Nat) (hk : k < 4) : numB (a ^^^ b) 4 k = numB a 4 k ^^^ numB b 4 k := by
 rw [numB_shift4 _ _ hk, numB_shift4 _ _ hk, numB_shift4 _ _ hk, Nat.shiftRight_xor_distrib, Nat.xor_mod_two_pow]
theorem numB_kw {f : Nat → Nat} {i k : Nat} (h : ∀ k, k < 4 → f (4 * i + k) < 256) (hk : k < 4) : numB (kwN f i) 4 k = f (4 * i + k) := by
 have h0 := h 0 (by decide); have h1 := h 1 (by decide); have h2 := h 2 (by decide); have h3 := h 3 (by decide)
 rw [Nat.add_zero] at h0
 have e : kwN f i = f (4 * i) * 16777216 + f (4 * i + 1) * 65536 + f (4 * i + 2) * 256 + f (4 * i + 3) := rfl
 rw [e]; clear e
 rcases (by omega : k = 0 ∨ k = 1 ∨ k = 2 ∨ k = 3) with rfl | rfl | rfl | rfl
 all_goals
  try rw [Nat.add_zero]
  generalize f (4 * i) = a at *
  generalize f (4 * i + 1) = b at *
  generalize f (4 * i + 2) = c at *
  generalize f (4 * i + 3) = d at *
  unfold numB
  simp only [Nat.sub_zero, Nat.reduceSub, Nat.reducePow, Nat.pow_zero, Nat.pow_one, Nat.div_one]
  omega
theorem numB_word (x k : Nat) (hx : x < 4294967296) (hk : k < 4) : numB (wordN x) 4 k = subN (numB x 4 k) := by
 have h0 := subN_lt (x / 16777216); have h1 := subN_lt (x / 65536 % 256); have h2 := subN_lt (x / 256 % 256); have h3 := subN_lt (x % 256)
 rcases (by omega : k = 0 ∨ k = 1 ∨ k = 2 ∨ k = 3) with rfl | rfl | rfl | rfl
 ·rw [show numB x 4 0 = x / 16777216 by unfold numB; simp only [Nat.sub_zero, Nat.reduceSub, Nat.reducePow]; omega]
  unfold numB wordN; simp only [Nat.sub_zero, Nat.reduceSub, Nat.reducePow]; omega
 ·rw [show numB x 4 1 = x / 65536 % 256 by unfold numB; simp only [Nat.reduceSub, Nat.reducePow]]
  unfold numB wordN; simp only [Nat.reduceSub, Nat.reducePow]; omega
 ·rw [show numB x 4 2 = x / 256 % 256 by unfold numB; simp only [Nat.reduceSub, Nat.reducePow]]
  unfold numB wordN; simp only [Nat.reduceSub, Nat.reducePow]; omega
 ·rw [show numB x 4 3 = x % 256 by unfold numB; simp only [Nat.reduceSub, Nat.pow_zero, Nat.div_one]]
  unfold numB wordN; simp only [Nat.reduceSub, Nat.pow_zero, Nat.div_one]; omega
theorem or_add8 (a b : Nat) (ha : a < 16777216) (hb : b < 256) : (a * 256) ||| b = a * 256 + b := by
 have := Nat.shiftLeft_add_eq_or_of_lt (i := 8) hb a
 rw [Nat.shiftLeft_eq] at this
 exact this.symm
theorem rot8_add (x : Nat) (hx : x < 4294967296) : rot8 x = x % 16777216 * 256 + x / 16777216 := by
 unfold rot8
 rw [show x * 256 % 4294967296 = x % 16777216 * 256 by omega]
 exact or_add8 _ _ (by omega) (by omega)
theorem div4 (a b c d : Nat) (hb : b < 256) (hc : c < 256) (hd : d < 256) : (a * 16777216 + b * 65536 + c * 256 + d) / 16777216 = a ∧ (a * 16777216 + b * 65536 + c * 256 + d) / 65536 = a * 256 + b ∧ (a * 16777216 + b * 65536 + c * 256 + d) / 256 = a * 65536 + b * 256 + c :=
 ⟨by omega, by omega, by omega⟩
theorem numB_rot (x k : Nat) (hx : x < 4294967296) (hk : k < 4) : numB (rot8 x) 4 k = numB x 4 ((k + 1) % 4) := by
 rw [rot8_add x hx]
 obtain ⟨a, ha⟩ := zX (x / 16777216)
 obtain ⟨b, hb⟩ := zX (x / 65536 % 256)
 obtain ⟨c, hc⟩ := zX (x / 256 % 256)
 obtain ⟨d, hd⟩ := zX (x % 256)
 have h1 : x = a * 16777216 + b * 65536 + c * 256 + d := by omega
 have h5 : x % 16777216 = b * 65536 + c * 256 + d := by omega
 have h2 : a < 256 := by omega
 have h3 : b < 256 := by omega
 have h4 : c < 256 := by omega
 have h6 : d < 256 := by omega
 rw [ha, h5, h1, show (b * 65536 + c * 256 + d) * 256 + a = b * 16777216 + c * 65536 + d * 256 + a by omega]
 clear ha hb hc hd h1 h5 hx x
 obtain ⟨q0, q1, q2⟩ := div4 b c d a h4 h6 h2
 obtain ⟨r0, r1, r2⟩ := div4 a b c d h3 h4 h6
 rcases (by omega : k = 0 ∨ k = 1 ∨ k = 2 ∨ k = 3) with rfl | rfl | rfl | rfl
 ·show (b * 16777216 + c * 65536 + d * 256 + a) / 16777216 % 256 = (a * 16777216 + b * 65536 + c * 256 + d) / 65536 % 256; rw [q0, r1]; omega
 ·show (b * 16777216 + c * 65536 + d * 256 + a) / 65536 % 256 = (a * 16777216 + b * 65536 + c * 256 + d) / 256 % 256; rw [q1, r2]; omega
 ·show (b * 16777216 + c * 65536 + d * 256 + a) / 256 % 256 = (a * 16777216 + b * 65536 + c * 256 + d) / 1 % 256; rw [q2, Nat.div_one]; omega
 ·show (b * 16777216 + c * 65536 + d * 256 + a) / 1 % 256 = (a * 16777216 + b * 65536 + c * 256 + d) / 16777216 % 256; rw [r0, Nat.div_one]; omega
theorem numB_rcon : ∀ d, d < 8 → 1 ≤ d → ∀ k, k < 4 → numB (2 ^ (23 + d)) 4 k = if k = 0 then 2 ^ (d - 1) else 0 := by decide
def dW (f : Nat → Nat) (n k : Nat) : Nat := numB (exK f 60 n) 4 k
theorem dW_lt (f : Nat → Nat) (n k : Nat) : dW f n k < 256 := numB_lt _ _ _
theorem dW_lo {f : Nat → Nat} (hf : ∀ i, i < 32 → f i < 256) {n k : Nat} (hn : n < 8) (hk : k < 4) : dW f n k = f (4 * n + k) := by
 unfold dW; rw [exK_lo f hn]; exact numB_kw (fun k hk => hf _ (by omega)) hk
theorem dW_rec {f : Nat → Nat} (hf : ∀ i, i < 32 → f i < 256) {n k : Nat} (h8 : 8 ≤ n) (hn : n < 60) (hk : k < 4) :
  dW f n k = dW f (n - 8) k ^^^ (if n % 8 = 0 then (if k = 0 then subN (dW f (n - 1) 1) ^^^ 2 ^ (n / 8 - 1) else subN (dW f (n - 1) ((k + 1) % 4))) else if n % 8 = 4 then subN (dW f (n - 1) k) else dW f (n - 1) k) := by
 have hl := exK_lt hf 60 (Nat.le_refl _) (n - 1)
 have e : exK f 60 n = exK f 60 (n - 8) ^^^ lastN (exK f 60) n := by
  rw [exK_keep f 60 hn, exK_keep f 60 (show n - 8 < 60 by omega)]
  have e1 : exS f n = exK f n (n - 8) ^^^ lastN (exK f n) n := if_neg (by omega)
  have e2 : lastN (exK f n) n = lastN (exK f 60) n := by
   unfold lastN
   rw [exK_keep f n (show n - 1 < n by omega), exK_keep f 60 (show n - 1 < 60 by omega)]
  rw [e1, exK_keep f n (show n - 8 < n by omega), e2]
 have e3 : dW f n k = dW f (n - 8) k ^^^ numB (lastN (exK f 60) n) 4 k := by
  unfold dW; rw [e, numB_xor4 _ _ _ hk]
 rw [e3]
 congr 1
 unfold lastN dW
 by_cases h0 : n % 8 = 0
 ·rw [if_pos h0, if_pos h0, numB_xor4 _ _ _ hk, numB_word _ _ (rot8_lt hl) hk, numB_rot _ _ hl hk, numB_rcon _ (by omega) (by omega) k hk]
  by_cases hk0 : k = 0
  ·subst hk0; rw [if_pos rfl, if_pos rfl]
  ·rw [if_neg hk0, if_neg hk0, Nat.xor_zero]
 ·rw [if_neg h0, if_neg h0]
  by_cases h4 : n % 8 = 4
  ·rw [if_pos h4, if_pos h4]; exact numB_word _ _ hl hk
  ·rw [if_neg h4, if_neg h4]
def A16 (w : World) (g : Nat) (f : Nat → Nat) : Prop := Blk w g (rowC 16 f).toArray 72
theorem A16.cell {w : World} {g : Nat} {f : Nat → Nat} (h : A16 w g f) {i : Nat} (hi : i < 16) : w.cell? ⟨g, i, none⟩ = some (.int .u8 (f i : Nat)) := by
 rw [Blk.cell h i]; simpa using rowC_get f hi
theorem A16.set {w : World} {g : Nat} {f : Nat → Nat} (h : A16 w g f) (k x : Nat) : A16 (w.setCell ⟨g, k, none⟩ (.int .u8 (x : Nat))) g (upd f k x) := by
 have := Blk.set h k (.int .u8 (x : Nat))
 rw [List.setIfInBounds_toArray, rowC_set] at this; exact this
theorem A16.congr {w : World} {g : Nat} {f f' : Nat → Nat} (h : A16 w g f) (he : ∀ i, i < 16 → f i = f' i) : A16 w g f' := by
 unfold A16 at h ⊢; rw [← rowC_congr he]; exact h
theorem zero16a_run (w : World) : (zeroValue 72).run Tryz.prog w = .ok (.agg zero16) w := by kernel_rfl
theorem size16a : (Tryz.prog.info? 72).map (·.size) = some 16 := by kernel_rfl
theorem info16a (f : Nat → Nat) : (Tryz.prog.info? 72).map (·.size) = some (rowC 16 f).toArray.size := by rw [size_row]; exact size16a
theorem A16.store {w : World} {g : Nat} {f : Nat → Nat} (h : A16 w g f) (f' : Nat → Nat) : A16 (w.setCells g 0 (rowC 16 f').toArray.toList) g f' := by
 unfold A16 at h ⊢
 exact Blk.setCells h (rowC 16 f') (by rw [size_row, rowC_len])
theorem A16.there {w : World} {g : Nat} {f : Nat → Nat} (h : A16 w g f) (f' : Nat → Nat) : w.there g 0 (rowC 16 f').toArray.size := by
 rw [size_row]; exact Blk.there h (by rw [size_row]; exact Nat.le_refl _)
def SA (L : List (Nat × Array Value)) (w : World) : Prop := ∀ p ∈ L, Blk w p.1 p.2 72
theorem SA.later {L : List (Nat × Array Value)} {w w' : World} (h : SA L w) (hb : Below w.heap.size w w') : SA L w' := fun p hp => Blk.below (h p hp) hb (Blk.lt (h p hp))
theorem SA.drew {L : List (Nat × Array Value)} {w : World} (h : SA L w) : SA L w.drew := h
theorem SA.h0 {p : Nat × Array Value} {L : List (Nat × Array Value)} {w : World} (h : SA (p :: L) w) : Blk w p.1 p.2 72 := h p (by simp)
theorem SA.tl {p : Nat × Array Value} {L : List (Nat × Array Value)} {w : World} (h : SA (p :: L) w) : SA L w := fun q hq => h q (by simp [hq])
theorem SA.nil (w : World) : SA [] w := fun p hp => by cases hp
theorem SA.cons {g : Nat} {C : Array Value} {L : List (Nat × Array Value)} {w : World} (h : Blk w g C 72) (hl : SA L w) : SA ((g, C) :: L) w := fun p hp => by
 rcases List.mem_cons.1 hp with rfl | hp
 ·exact h
 ·exact hl p hp
theorem SA.set {L : List (Nat × Array Value)} {w : World} {g : Nat} (h : SA L w) (hn : ∀ p ∈ L, p.1 ≠ g) (vs : List Value) : SA L (w.setCells g 0 vs) := fun p hp =>
 (Own.setCells vs 0 w).blk (h p hp) (hn p hp)
theorem SA.lt {L : List (Nat × Array Value)} {w : World} (h : SA L w) : ∀ p ∈ L, p.1 ≠ w.heap.size := fun p hp => Nat.ne_of_lt (Blk.lt (h p hp))
theorem ld16a {w : World} {g : Nat} {C : Array Value} (h : Blk w g C 72) (hs : (Tryz.prog.info? 72).map (·.size) = some C.size) : (loadVar 72 ⟨g, 0, none⟩).run Tryz.prog w = .ok (.agg C) w :=
 run_loadVar_row w g 72 72 C (0, 0) _ h Tryz.underlying72 rfl hs
theorem exec_load16a {o : Oper} {a : Act} {w : World} {g : Nat} {C : Array Value} {x : Operand} (ho : o.op = .load 72 x) (hx : a.eval x = .pointer (some ⟨g, 0, none⟩)) (h : (loadVar 72 ⟨g, 0, none⟩).run Tryz.prog w = .ok (.agg C) w) : (execOp a.eval o).run Tryz.prog w = .ok (.value (.agg C)) w := by
 unfold execOp
 simp only [ho, hx, Instr.loadAt, Instr.sureAddr, Sem.run_bind, Sem.run_pure, Result.andThen_ok, h]
theorem step_load16a {ops : Array Oper} {o : Oper} {a : Act} {w : World} {K : Act → World → Prop} {Q : Exit → Act → World → Prop} {E : Prop} (hgd : o.guard = none) (x : Operand) (ho : o.op = .load 72 x) (g : Nat) (hx : a.eval x = .pointer (some ⟨g, 0, none⟩)) (C : Array Value) (hB : Blk w g C 72) (hs : (Tryz.prog.info? 72).map (·.size) = some C.size)
  (h : K (a.put o.dst (.agg C)) w) : if Region.wanted o (yielded ops a.tmps) = true then Oper.wp Tryz.prog o a w K Q else E := by
 have hw : Region.wanted o (yielded ops a.tmps) = true := by simp [Region.wanted, hgd]
 rw [if_pos hw]
 exact wp_load_row 72 x ho g hx 72 C (0, 0) _ hB Tryz.underlying72 rfl hs h
theorem step_store16a {ops : Array Oper} {o : Oper} {a : Act} {w : World} {K : Act → World → Prop} {Q : Exit → Act → World → Prop} {E : Prop} (hgd : o.guard = none) (x y : Operand) (ho : o.op = .store 72 x y) (g : Nat) (hx : a.eval x = .pointer (some ⟨g, 0, none⟩)) (C D : Array Value) (hy : a.eval y = .agg C) (hB : Blk w g D 72) (hC : ∃ f, C = (rowC 16 f).toArray) (hD : ∃ f, D = (rowC 16 f).toArray)
  (h : K (a.put o.dst undef) (w.setCells g 0 C.toList)) : if Region.wanted o (yielded ops a.tmps) = true then Oper.wp Tryz.prog o a w K Q else E := by
 have hw : Region.wanted o (yielded ops a.tmps) = true := by simp [Region.wanted, hgd]
 rw [if_pos hw]
 obtain ⟨f, rfl⟩ := hC
 obtain ⟨f', rfl⟩ := hD
 exact wp_store_mid 72 x y ho g 0 _ hx hy (A16.there hB f) (info16a f) (one16 f) h
theorem Blk.store16a {w : World} {g : Nat} {C D : Array Value} (hB : Blk w g D 72) (hC : ∃ f, C = (rowC 16 f).toArray) (hD : ∃ f, D = (rowC 16 f).toArray) : Blk (w.setCells g 0 C.toList) g C 72 := by
 obtain ⟨f, rfl⟩ := hC
 obtain ⟨f', rfl⟩ := hD
 exact A16.store hB f
theorem exec_builda {o : Oper} {a : Act} {w : World} {C : Array Value} {parts : Array (Nat × Operand)} {ps : Array (Nat × Value)} (ho : o.op = .build 72 parts) (hp : (parts.map fun (i, x) => (i, a.eval x)) = ps) (h : ∀ w, (Instr.build 72 ps).run Tryz.prog w = .ok (.agg C) w) : (execOp a.eval o).run Tryz.prog w = .ok (.value (.agg C)) w := by
 unfold execOp
 simp only [ho, hp, Sem.run_bind, h, Result.andThen_ok]
 rfl
theorem wpList_store16a {ops : Array Oper} {rest : List Oper} {o : Oper} {a : Act} {w : World} {Q : Exit → Act → World → Prop} (hgd : o.guard = none) (x y : Operand) (ho : o.op = .store 72 x y) (g : Nat) (hx : a.eval x = .pointer (some ⟨g, 0, none⟩)) (C D : Array Value) (hy : a.eval y = .agg C) (hB : Blk w g D 72) (hC : ∃ f, C = (rowC 16 f).toArray) (hD : ∃ f, D = (rowC 16 f).toArray)
  (h : wpList Tryz.prog ops Q rest (a.put o.dst undef) (w.setCells g 0 C.toList)) : wpList Tryz.prog ops Q (o :: rest) a w := by
 obtain ⟨f, rfl⟩ := hC
 obtain ⟨f', rfl⟩ := hD
 exact wpList_store_mid hgd 72 x y ho g 0 _ hx hy (A16.there hB f) (info16a f) (one16 f) h
theorem build_nonea (w : World) : (Instr.build 72 #[]).run Tryz.prog w = .ok (.agg zero16) w := run_build w 72 #[] zero16 (by kernel_rfl)
theorem wpList_load16a {ops : Array Oper} {rest : List Oper} {o : Oper} {a : Act} {w : World} {Q : Exit → Act → World → Prop} (hgd : o.guard = none) (x : Operand) (ho : o.op = .load 72 x) (g : Nat) (hx : a.eval x = .pointer (some ⟨g, 0, none⟩)) (C : Array Value) (hB : Blk w g C 72) (hC : ∃ f, C = (rowC 16 f).toArray)
  (h : wpList Tryz.prog ops Q rest (a.put o.dst (.agg C)) w) : wpList Tryz.prog ops Q (o :: rest) a w := by
 obtain ⟨f, rfl⟩ := hC
 exact wpList_load_row hgd 72 x ho g hx 72 _ (0, 0) _ hB Tryz.underlying72 rfl (info16a f) h
theorem res16a {fn : Func} {p : Tmp} (h : fn.results = #[.cell p 72]) (tmps : Array Value) (w : World) (g : Nat) (C : Array Value) (hp : tmps.getD p undef = .pointer (some ⟨g, 0, none⟩)) (hB : Blk w g C 72) (hC : ∃ f, C = (rowC 16 f).toArray) :
  (results fn tmps).run Tryz.prog w = .ok (.agg C) w := by
 obtain ⟨f, rfl⟩ := hC
 exact results_cell_row h tmps w g 72 _ (0, 0) _ hp hB Tryz.underlying72 rfl (info16a f)
set_option maxRecDepth 100000
set_option maxHeartbeats 1000000
theorem dbl_lo {a : Nat} (h : a < 128) : dbl a = a * 2 % 256 := by
 unfold dbl; rw [show a / 128 = 0 by omega, Nat.mul_zero, Nat.xor_zero]
theorem dbl_hi {a : Nat} (h : 128 ≤ a) (h2 : a < 256) : dbl a = (a * 2 % 256) ^^^ 27 := by
 unfold dbl; rw [show a / 128 = 1 by omega, Nat.mul_one]
theorem rt2_any (a : Nat) (w : World) (ha : a < 256) :
  Calls Tryz.prog 104 #[.int .u8 (a : Nat), .int .i64 2] w fun e w' => e = .returned (.int .u8 (dbl a : Nat)) ∧ Below w.heap.size w w' := by
 have e1 : IntKind.u8.wrap ((a : Int) * 2) = ((a * 2 % 256 : Nat) : Int) := by simp [IntKind.wrap, IntKind.bits, IntKind.signed]
 obtain ⟨v, hv⟩ := zX (a * 2 % 256)
 have hvl : v < 256 := by omega
 rw [hv] at e1
 by_cases h : a < 128
 ·have h1 : ¬ (128 : Int) ≤ (a : Int) := by omega
  have e0 := dbl_lo h
  rw [hv] at e0
  rw [e0]; clear e0 hv h
  go_enter Tryz.func104, Tryz.ntmps104
  go_wp2_with fail
  go_ret
  exact ⟨rfl, Below.refl _ _⟩
 ·have h1 : (128 : Int) ≤ (a : Int) := by omega
  have e0 := dbl_hi (by omega) ha
  rw [hv] at e0
  have e3 : bits .xor .u8 (v : Int) 27 = ((dbl a : Nat) : Int) := by rw [e0]; exact u8_xor_nat v 27 hvl (by decide)
  clear e0 hv h
  generalize dbl a = d at *
  go_enter Tryz.func104, Tryz.ntmps104
  go_wp2_with fail
  go_ret
  exact ⟨rfl, Below.refl _ _⟩
theorem rt3_any (a : Nat) (w : World) (ha : a < 256) :
  Calls Tryz.prog 104 #[.int .u8 (a : Nat), .int .i64 3] w fun e w' => e = .returned (.int .u8 (dbl a ^^^ a : Nat)) ∧ Below w.heap.size w w' := by
 have e1 : IntKind.u8.wrap ((a : Int) * 2) = ((a * 2 % 256 : Nat) : Int) := by simp [IntKind.wrap, IntKind.bits, IntKind.signed]
 have e4 : bits .xor .u8 (dbl a : Nat) (a : Nat) = ((dbl a ^^^ a : Nat) : Int) := u8_xor_nat _ _ (dbl_lt ha) ha
 obtain ⟨v, hv⟩ := zX (a * 2 % 256)
 have hvl : v < 256 := by omega
 rw [hv] at e1
 by_cases h : a < 128
 ·have h1 : ¬ (128 : Int) ≤ (a : Int) := by omega
  have e0 := dbl_lo h
  rw [hv] at e0
  rw [e0] at e4 ⊢; clear e0 hv h
  generalize v ^^^ a = d at *
  go_enter Tryz.func104, Tryz.ntmps104
  go_wp2_with fail
  go_ret
  exact ⟨rfl, Below.refl _ _⟩
 ·have h1 : (128 : Int) ≤ (a : Int) := by omega
  have e0 := dbl_hi (by omega) ha
  rw [hv] at e0
  have e3 : bits .xor .u8 (v : Int) 27 = ((dbl a : Nat) : Int) := by rw [e0]; exact u8_xor_nat v 27 hvl (by decide)
  clear e0 hv h
  generalize dbl a ^^^ a = x at *
  generalize dbl a = d at *
  go_enter Tryz.func104, Tryz.ntmps104
  go_wp2_with fail
  go_ret
  exact ⟨rfl, Below.refl _ _⟩
set_option maxHeartbeats 4000000
def AS (g : Nat) (f : Nat → Nat) (w' : World) : Prop := A16 w' g f
theorem AS.later {g : Nat} {f : Nat → Nat} {w w' : World} (h : AS g f w) (hb : Below w.heap.size w w') : AS g f w' := Blk.below h hb (Blk.lt h)
theorem AS.cell {g : Nat} {f : Nat → Nat} {w : World} (h : AS g f w) {i x : Nat} (hx : f i = x ∧ i < 16) : w.cell? ⟨g, i, none⟩ = some (.int .u8 (x : Nat)) := by rw [← hx.1]; exact A16.cell h hx.2
theorem AS.set {g b : Nat} {f : Nat → Nat} {w : World} (h : AS g f w) (hn : g ≠ b) (k : Nat) (v : Value) : AS g f (w.setCell ⟨b, k, none⟩ v) := Blk.set_other h hn v
def MD (w0 : World) (f : Nat → Nat) (n : Nat) (wr : World) : Prop := A16 wr w0.heap.size f ∧ A16 wr (w0.heap.size + 1) (fun _ => 0) ∧ A16 wr (w0.heap.size + 1 + 1) (fun j => if j < n then mxA f j else 0) ∧ Below w0.heap.size w0 wr
theorem rmixed_any (f : Nat → Nat) (w : World) (hf : ∀ i, i < 16 → f i < 256) :
  Calls Tryz.prog 89 #[.agg (rowC 16 f).toArray] w fun e w' => e = .returned (.agg (rowC 16 (mxA f)).toArray) ∧ Below w.heap.size w w' := by
 have hz := zero16a_run
 have HF := zh hf
 obtain ⟨C, hC⟩ := zX ((rowC 16 f).toArray)
 have HT : Hid (MD w f 0 (((w.alloc (.cells C 72)).alloc (.cells zero16 72)).alloc (.cells zero16 72))) := zh (by
  rw [← hC]
  refine ⟨((Blk.new w _ 72).alloc _).alloc _, ?_, ?_, ((zA).alloc (by simp) _).alloc (by simp; omega) _⟩
  ·have := (Blk.new (w.alloc (.cells (rowC 16 f).toArray 72)) zero16 72).alloc (.cells zero16 72)
   show Blk _ _ zero16 _; simpa using this
  ·have := Blk.new ((w.alloc (.cells (rowC 16 f).toArray 72)).alloc (.cells zero16 72)) zero16 72
   refine A16.congr (f := fun _ => 0) ?_ fun i _ => (if_neg (Nat.not_lt_zero _)).symm
   show Blk _ _ zero16 _; simpa using this)
 rw [hC]
 clear hf hC
 go_enter Tryz.func89, Tryz.ntmps89
 go_wp2_with fail
 clear hz
 go_loopw [4] (fun v wr => ∃ i : Nat, i ≤ 16 ∧ v = .int .i64 (i : Int) ∧ MD w f i wr) (fun v _ => 16 - (intOf v).toNat)
 case atStart => exact ⟨0, Nat.zero_le _, rfl, HT.out⟩
 case round =>
  clear HT
  obtain ⟨i, hi, rfl, hX, hR, hY, hO⟩ := hrel
  by_cases hlt : i < 16
  ·have i0 : (0 : Int) ≤ (i : Int) := by omega
   have i1 : (i : Int) < 16 := by omega
   have hat : mxA f i = dmx f i := (dmx_eq f i).symm
   unfold dmx at hat
   obtain ⟨q, hq⟩ := zX (i / 4)
   obtain ⟨c, hc⟩ := zX (q * 4)
   obtain ⟨j1, hj1⟩ := zX (i + 1)
   obtain ⟨j2, hj2⟩ := zX (i + 2)
   obtain ⟨j3, hj3⟩ := zX (i + 3)
   obtain ⟨r1, hr1⟩ := zX (j1 % 4)
   obtain ⟨r2, hr2⟩ := zX (j2 % 4)
   obtain ⟨r3, hr3⟩ := zX (j3 % 4)
   obtain ⟨k1, hk1⟩ := zX (c + r1)
   obtain ⟨k2, hk2⟩ := zX (c + r2)
   obtain ⟨k3, hk3⟩ := zX (c + r3)
   rw [hq, hc, hj1, hj2, hj3, hr1, hr2, hr3, hk1, hk2, hk3] at hat
   have HAT := zh hat
   clear hat
   have hk116 : k1 < 16 := by omega
   have hk216 : k2 < 16 := by omega
   have hk316 : k3 < 16 := by omega
   have hc16 : c < 16 := by omega
   have d1 := tdk (m := 4) rfl hq
   have d2 := wrm (m := 4) rfl hc (by omega)
   have p1 := wrk (m := 1) rfl hj1 (by omega)
   have p2 := wrk (m := 2) rfl hj2 (by omega)
   have p3 := wrk (m := 3) rfl hj3 (by omega)
   have t1 := tmk (m := 4) rfl hr1
   have t2 := tmk (m := 4) rfl hr2
   have t3 := tmk (m := 4) rfl hr3
   have s1 := wrs hk1 (by omega)
   have s2 := wrs hk2 (by omega)
   have s3 := wrs hk3 (by omega)
   have e1 : (i : Int) / 4 = (q : Int) := by omega
   have e2 : (q : Int) * 4 = (c : Int) := by omega
   clear hq hc hj1 hj2 hj3 hr1 hr2 hr3 hk1 hk2 hk3
   obtain ⟨k10, k11⟩ := ix hk116
   obtain ⟨k20, k21⟩ := ix hk216
   obtain ⟨k30, k31⟩ := ix hk316
   have q0 : (0 : Int) ≤ (q : Int) := by omega
   have q1 : (q : Int) < 16 := by omega
   have c0 : (0 : Int) ≤ (c : Int) := by omega
   have c1 : (c : Int) < 16 := by omega
   have b0 := HF.out i hlt
   have b1 := HF.out k1 hk116
   have b2 := HF.out k2 hk216
   have b3 := HF.out k3 hk316
   obtain ⟨M, hM⟩ := zX (mxA f i)
   have hat := HAT.out
   clear HAT
   rw [hM] at hat
   obtain ⟨x0, h0⟩ := zX (f i)
   obtain ⟨x1, h1⟩ := zX (f k1)
   obtain ⟨x2, h2⟩ := zX (f k2)
   obtain ⟨x3, h3⟩ := zX (f k3)
   rw [h0] at b0 hat
   rw [h1] at b1 hat
   rw [h2] at b2 hat
   rw [h3] at b3 hat
   have HX0 : Hid (f i = x0 ∧ i < 16) := zh ⟨h0, hlt⟩
   have HX1 : Hid (f k1 = x1 ∧ k1 < 16) := zh ⟨h1, hk116⟩
   have HX2 : Hid (f k2 = x2 ∧ k2 < 16) := zh ⟨h2, hk216⟩
   have HX3 : Hid (f k3 = x3 ∧ k3 < 16) := zh ⟨h3, hk316⟩
   clear h0 h1 h2 h3 hk116 hk216 hk316 hc16
   have f1 : bits .xor .u8 (dbl x0 : Nat) (dbl x1 ^^^ x1 : Nat) = ((dbl x0 ^^^ (dbl x1 ^^^ x1) : Nat) : Int) := u8_xor_nat _ _ (dbl_lt b0) (xlt (dbl_lt b1) b1)
   have f2 : bits .xor .u8 ((dbl x0 ^^^ (dbl x1 ^^^ x1) : Nat) : Int) (x2 : Int) = ((dbl x0 ^^^ (dbl x1 ^^^ x1) ^^^ x2 : Nat) : Int) := u8_xor_nat _ _ (xlt (dbl_lt b0) (xlt (dbl_lt b1) b1)) b2
   have f3 : bits .xor .u8 ((dbl x0 ^^^ (dbl x1 ^^^ x1) ^^^ x2 : Nat) : Int) (x3 : Int) = (M : Int) := by rw [hat]; exact u8_xor_nat _ _ (xlt (xlt (dbl_lt b0) (xlt (dbl_lt b1) b1)) b2) b3
   have HC2 := zh (fun w' => rt2_any x0 w' b0)
   have HC3 := zh (fun w' => rt3_any x1 w' b1)
   generalize dbl x0 ^^^ (dbl x1 ^^^ x1) ^^^ x2 = z2 at *
   generalize dbl x0 ^^^ (dbl x1 ^^^ x1) = z1 at *
   generalize dbl x1 ^^^ x1 = y1 at *
   generalize dbl x0 = y0 at *
   have HM := zh hM
   have HX := zh hX
   have HR := zh hR
   have HY := zh hY
   have HO := zh hO
   clear hX hR hY hO hM hat b0 b1 b2 b3 hlt hi
   go_wp2_with fail
   have hP_0 : Below wr.heap.size wr wr.drew := (Below.refl _ wr).drew
   have hA_0 : AS w.heap.size f wr.drew := HX.out
   refine wp_region_held_drew (S := (AS w.heap.size f)) (by kernel_rfl) ?_ (fun hHeld => ?_)
   ·(try dsimp only)
    first | assumption
   generalize wr.drew = W0 at *
   refine wT 0 ?_ rfl ?_ ?_
   rotate_left
   ·intro wS hSw
    (try dsimp only at hSw)
    go_simp
    (try with_reducible rfl)
   (try simp only [Act.put, zS])
   refine wT 1 ?_ rfl ?_ ?_
   rotate_left
   ·intro wS hSw
    (try dsimp only at hSw)
    go_simp
    (try with_reducible rfl)
   (try simp only [Act.put, zS])
   refine wT 2 ?_ rfl ?_ ?_
   rotate_left
   ·intro wS hSw
    (try dsimp only at hSw)
    go_simp
    (try with_reducible rfl)
   (try simp only [Act.put, zS])
   refine wT 3 ?_ rfl ?_ ?_
   rotate_left
   ·intro wS hSw
    (have c9 := AS.cell hSw HX0.out; go_simp; (try with_reducible rfl))
   (try simp only [Act.put, zS])
   refine wT 5 ?_ rfl ?_ ?_
   rotate_left
   ·intro wS hSw
    (try dsimp only at hSw)
    go_simp
    (try with_reducible rfl)
   (try simp only [Act.put, zS])
   refine wT 6 ?_ rfl ?_ ?_
   rotate_left
   ·intro wS hSw
    (try dsimp only at hSw)
    go_simp
    (try with_reducible rfl)
   (try simp only [Act.put, zS])
   refine wT 7 ?_ rfl ?_ ?_
   rotate_left
   ·intro wS hSw
    (try dsimp only at hSw)
    go_simp
    (try with_reducible rfl)
   (try simp only [Act.put, zS])
   refine wT 8 ?_ rfl ?_ ?_
   rotate_left
   ·intro wS hSw
    (try dsimp only at hSw)
    go_simp
    (try with_reducible rfl)
   (try simp only [Act.put, zS])
   refine wT 9 ?_ rfl ?_ ?_
   rotate_left
   ·intro wS hSw
    (try dsimp only at hSw)
    go_simp
    (try with_reducible rfl)
   (try simp only [Act.put, zS])
   refine wT 10 ?_ rfl ?_ ?_
   rotate_left
   ·intro wS hSw
    (try dsimp only at hSw)
    go_simp
    (try with_reducible rfl)
   (try simp only [Act.put, zS])
   refine wT 11 ?_ rfl ?_ ?_
   rotate_left
   ·intro wS hSw
    (have c9 := AS.cell hSw HX1.out; go_simp; (try with_reducible rfl))
   (try simp only [Act.put, zS])
   refine wT 14 ?_ rfl ?_ ?_
   rotate_left
   ·intro wS hSw
    (try dsimp only at hSw)
    go_simp
    (try with_reducible rfl)
   (try simp only [Act.put, zS])
   refine wT 15 ?_ rfl ?_ ?_
   rotate_left
   ·intro wS hSw
    (try dsimp only at hSw)
    go_simp
    (try with_reducible rfl)
   (try simp only [Act.put, zS])
   refine wT 16 ?_ rfl ?_ ?_
   rotate_left
   ·intro wS hSw
    (try dsimp only at hSw)
    go_simp
    (try with_reducible rfl)
   (try simp only [Act.put, zS])
   refine wT 17 ?_ rfl ?_ ?_
   rotate_left
   ·intro wS hSw
    (try dsimp only at hSw)
    go_simp
    (try with_reducible rfl)
   (try simp only [Act.put, zS])
   refine wT 18 ?_ rfl ?_ ?_
   rotate_left
   ·intro wS hSw
    (try dsimp only at hSw)
    go_simp
    (try with_reducible rfl)
   (try simp only [Act.put, zS])
   refine wT 19 ?_ rfl ?_ ?_
   rotate_left
   ·intro wS hSw
    (try dsimp only at hSw)
    go_simp
    (try with_reducible rfl)
   (try simp only [Act.put, zS])
   refine wT 20 ?_ rfl ?_ ?_
   rotate_left
   ·intro wS hSw
    (have c9 := AS.cell hSw HX2.out; go_simp; (try with_reducible rfl))
   (try simp only [Act.put, zS])
   refine wT 22 ?_ rfl ?_ ?_
   rotate_left
   ·intro wS hSw
    (try dsimp only at hSw)
    go_simp
    (try with_reducible rfl)
   (try simp only [Act.put, zS])
   refine wT 23 ?_ rfl ?_ ?_
   rotate_left
   ·intro wS hSw
    (try dsimp only at hSw)
    go_simp
    (try with_reducible rfl)
   (try simp only [Act.put, zS])
   refine wT 24 ?_ rfl ?_ ?_
   rotate_left
   ·intro wS hSw
    (try dsimp only at hSw)
    go_simp
    (try with_reducible rfl)
   (try simp only [Act.put, zS])
   refine wT 25 ?_ rfl ?_ ?_
   rotate_left
   ·intro wS hSw
    (try dsimp only at hSw)
    go_simp
    (try with_reducible rfl)
   (try simp only [Act.put, zS])
   refine wT 26 ?_ rfl ?_ ?_
   rotate_left
   ·intro wS hSw
    (try dsimp only at hSw)
    go_simp
    (try with_reducible rfl)
   (try simp only [Act.put, zS])
   refine wT 27 ?_ rfl ?_ ?_
   rotate_left
   ·intro wS hSw
    (try dsimp only at hSw)
    go_simp
    (try with_reducible rfl)
   (try simp only [Act.put, zS])
   refine wT 28 ?_ rfl ?_ ?_
   rotate_left
   ·intro wS hSw
    (have c9 := AS.cell hSw HX3.out; go_simp; (try with_reducible rfl))
   (try simp only [Act.put, zS])
   refine wR [4] ?_
   refine aN rfl fun K hK => ?_
   go_simp
   (refine (HC2.out _).mono ?_; rintro e v_1 ⟨rfl, hb_1⟩; have hP_1 := hP_0.trans (hb_1.mono hP_0.size); have hA_1 := AS.later hA_0 hb_1; clear hb_1 hP_0 hA_0; skip)
   (try go_wp2_with fail)
   refine hK.out _ _ ?_ fun hHeld => ?_
   ·(try dsimp only)
    first | assumption
   clear hK K
   (try simp only [Act.put, zS])
   refine wR [12] ?_
   refine aN rfl fun K hK => ?_
   go_simp
   (refine (HC3.out _).mono ?_; rintro e v_2 ⟨rfl, hb_2⟩; have hP_2 := hP_1.trans (hb_2.mono hP_1.size); have hA_2 := AS.later hA_1 hb_2; clear hb_2 hP_1 hA_1; skip)
   (try go_wp2_with fail)
   refine hK.out _ _ ?_ fun hHeld => ?_
   ·(try dsimp only)
    first | assumption
   clear hK K
   (try simp only [Act.put, zS])
   refine wT 13 ?_ rfl ?_ ?_
   rotate_left
   ·intro wS hSw
    (try dsimp only at hSw)
    go_simp
    (try with_reducible rfl)
   (try simp only [Act.put, zS])
   refine wT 21 ?_ rfl ?_ ?_
   rotate_left
   ·intro wS hSw
    (try dsimp only at hSw)
    go_simp
    (try with_reducible rfl)
   (try simp only [Act.put, zS])
   refine wT 29 ?_ rfl ?_ ?_
   rotate_left
   ·intro wS hSw
    (try dsimp only at hSw)
    go_simp
    (try with_reducible rfl)
   (try simp only [Act.put, zS])
   refine wT 30 ?_ rfl ?_ ?_
   rotate_left
   ·intro wS hSw
    (try dsimp only at hSw)
    go_simp
    (try with_reducible rfl)
   (try simp only [Act.put, zS])
   refine wR [31] ?_
   refine aN rfl fun K hK => ?_
   (have hY9 := Blk.below HY.out hP_2 (Blk.lt HY.out); have c8 : v_2.cell? ⟨w.heap.size + 1 + 1, i, none⟩ = some (.int .u8 0) := (by have h8 := A16.cell hY9 HX0.out.2; rw [if_neg (Nat.lt_irrefl _)] at h8; exact h8); have z8 : v_2.frozen? ⟨w.heap.size + 1 + 1, i, none⟩ = false := Blk.free hY9 _; have HY9 := zh hY9; clear hY9; go_simp; clear c8 z8; obtain ⟨v_3, hw_3⟩ := zX (v_2.setCell ⟨w.heap.size + 1 + 1, i, none⟩ (.int .u8 (M : Nat))); rw [hw_3]; have hA_3 := AS.set hA_2 (b := w.heap.size + 1 + 1) (by omega) i (.int .u8 (M : Nat)); rw [hw_3] at hA_3; have HN : Hid (MD w f (i + 1) v_3) := zh (by
       have hO8 := HO.out.trans (hP_2.mono HO.out.size)
       rw [← hw_3]
       refine ⟨Blk.set_other (Blk.below HX.out hP_2 (Blk.lt HX.out)) (by simp; omega) _, Blk.set_other (Blk.below HR.out hP_2 (Blk.lt HR.out)) (by simp) _, (A16.set HY9.out i M).congr fun j hj => ?_, hO8.setCell (by simp; omega) _⟩
       unfold upd
       by_cases e : j = i
       ·rw [if_pos e, e, if_pos (by omega), HM.out]
       ·rw [if_neg e]
        show (if j < i then mxA f j else 0) = if j < i + 1 then mxA f j else 0
        by_cases h5 : j < i
        ·rw [if_pos h5, if_pos (by omega)]
        ·rw [if_neg h5, if_neg (by omega)]); clear hP_2 hA_2 hw_3; skip)
   refine hK.out _ _ ?_ fun hHeld => ?_
   ·(try dsimp only)
    first | assumption
   clear hK K
   (try simp only [Act.put, zS])
   refine wpAnyH_done (by kernel_rfl) ?_ _
   clear hA_3 p1 p2 p3
   have HX00 := HX0.out.2
   go_wp2_with fail
   go_roundw
   case rel => exact ⟨i + 1, by omega, by go_num, HN.out⟩
   case measure => simp [intOf]; omega
  ·obtain rfl : i = 16 := by omega
   obtain ⟨E, hE⟩ := zX ((rowC 16 (mxA f)).toArray)
   have HCE : Hid (∃ f, E = (rowC 16 f).toArray) := zh ⟨_, hE.symm⟩
   have HC0 : Hid (∃ f, zero16 = (rowC 16 f).toArray) := zh ⟨_, rfl⟩
   have HX5 : Hid (Blk wr (w.heap.size + 1 + 1) E 72) := zh (hE ▸ (hY.congr fun i hi => if_pos hi))
   have HR5 : Hid (Blk wr (w.heap.size + 1) zero16 72) := zh hR
   have HN : Hid (Blk (wr.setCells (w.heap.size + 1) 0 E.toList) (w.heap.size + 1) E 72) := zh (Blk.store16a HR5.out HCE.out HC0.out)
   have HO5 : Hid (Below w.heap.size w (wr.setCells (w.heap.size + 1) 0 E.toList)) := zh (Below.set16 (g := w.heap.size + 1) hO (by omega) hO.size _)
   have HE := zh hE
   clear hX hR hY hO hE hlt hi
   go_wp2_with (first
    | (refine wpList_load16a rfl (.tmp 3) rfl (w.heap.size + 1 + 1) rfl E HX5.out HCE.out ?_)
    | (refine wpList_store16a rfl (.tmp 2) (.tmp 44) rfl (w.heap.size + 1) rfl E zero16 rfl HR5.out HCE.out HC0.out ?_))
   refine bodyPost_ret (v := .agg E) ?_ rfl ⟨by rw [HE.out], HO5.out⟩
   exact res16a Tryz.results89 _ _ (w.heap.size + 1) E rfl HN.out HCE.out
set_option maxHeartbeats 8000000
def atN (i k : Nat) : Nat := if k = 0 then i else (i + 3 + k) % 8
def accN (v i : Nat) : Nat → Nat
 | 0 => 99 / 2 ^ i
 | k + 1 => accN v i k + v / 2 ^ atN i k % 2
def affK (v : Nat) : Nat → Nat
 | 0 => 0
 | i + 1 => affK v i + (if accN v i 5 % 2 = 1 then 2 ^ i else 0)
theorem accN_le (v i : Nat) : ∀ k, accN v i k ≤ 99 + k
 | 0 => Nat.div_le_self _ _
 | k + 1 => by
  have := accN_le v i k
  show accN v i k + v / 2 ^ atN i k % 2 ≤ _
  omega
theorem affK_lt (v : Nat) : ∀ i, affK v i < 2 ^ i
 | 0 => Nat.one_pos
 | i + 1 => by
  have := affK_lt v i
  show affK v i + _ < 2 ^ (i + 1)
  rw [Nat.pow_succ]; split <;> omega
theorem aff_spread : ∀ v, v < 256 → affK v 8 = spreadN v := by decide +kernel
theorem acc_one {v i k d : Nat} (h : 2 ^ atN i k = d) : accN v i (k + 1) = accN v i k + v / d % 2 := by
 show accN v i k + v / 2 ^ atN i k % 2 = _; rw [h]
theorem aff_one {v i d : Nat} (h : accN v i 5 % 2 = 1) (hd : 2 ^ i = d) : affK v (i + 1) = affK v i + d := by
 show affK v i + (if accN v i 5 % 2 = 1 then 2 ^ i else 0) = _; rw [if_pos h, hd]
theorem aff_none {v i : Nat} (h : ¬ accN v i 5 % 2 = 1) : affK v (i + 1) = affK v i := by
 show affK v i + (if accN v i 5 % 2 = 1 then 2 ^ i else 0) = _; rw [if_neg h, Nat.add_zero]
theorem aff_any (v : Nat) (w : World) (hv : v < 256) :
  Calls Tryz.prog 101 #[.int .u8 (v : Int)] w fun e w' => e = .returned (.int .u8 (spreadN v : Nat)) ∧ w = w' := by
 have HS := zh (aff_spread v hv)
 have v0 : (0 : Int) ≤ (v : Int) := by omega
 have v1 : (v : Int) < 256 := by omega
 clear hv
 go_enter Tryz.func101, Tryz.ntmps101
 go_wp2_with fail
 go_loop [3, 4] (fun o i => ∃ q : Nat, q ≤ 8 ∧ i = .int .i64 (q : Int) ∧ o = .int .u8 (affK v q : Nat)) (fun _ i => 8 - (intOf i).toNat)
 case atStart => exact ⟨0, Nat.zero_le _, rfl, rfl⟩
 case round =>
  obtain ⟨q, hq, rfl, rfl⟩ := hrel
  by_cases hlt : q < 8
  ·have HA := zh (affK_lt v q)
   have HA0 := zh (show accN v q 0 = 99 / 2 ^ q from rfl)
   have HA5 := zh (accN_le v q 5)
   have H1 := zh (fun d (h : accN v q 5 % 2 = 1) (hd : 2 ^ q = d) => aff_one (v := v) h hd)
   have H2 := zh (fun (h : ¬ accN v q 5 % 2 = 1) => aff_none (v := v) (i := q) h)
   obtain ⟨a, ha⟩ := zX (affK v q)
   rw [ha] at HA H1 H2 ⊢
   obtain ⟨a2, ha2⟩ := zX (affK v (q + 1))
   rw [ha2] at H1 H2
   have HA2 := zh ha2
   have HP : Hid (2 ^ q < 256 ∧ a < 256) := zh (by
    have h1 : 2 ^ q ≤ 2 ^ 7 := Nat.pow_le_pow_right (by decide) (by omega)
    have := HA.out
    exact ⟨by omega, by omega⟩)
   clear ha ha2
   rcases (show q = 0 ∨ q = 1 ∨ q = 2 ∨ q = 3 ∨ q = 4 ∨ q = 5 ∨ q = 6 ∨ q = 7 by omega) with rfl | rfl | rfl | rfl | rfl | rfl | rfl | rfl
   ·have a0 : (a : Int) < 1 := by have := HA.out; omega
    go_wp2_with fail
    go_loop [5, 6] (fun n k => ∃ j : Nat, j ≤ 5 ∧ k = .int .i64 (j : Int) ∧ n = .int .u8 (accN v 0 j : Nat)) (fun _ k => 5 - (intOf k).toNat)
    case atStart => exact ⟨0, by decide, rfl, rfl⟩
    case round =>
     obtain ⟨j, hj, rfl, rfl⟩ := hrel
     have hle := accN_le v 0 j
     by_cases hlj : j < 5
     ·rcases (show j = 0 ∨ j = 1 ∨ j = 2 ∨ j = 3 ∨ j = 4 by omega) with rfl | rfl | rfl | rfl | rfl
      ·have hs := zh (acc_one (v := v) (i := 0) (k := 0) (d := 1) (by decide))
       obtain ⟨n, hn⟩ := zX (accN v 0 0)
       rw [hn] at hle hs ⊢
       have n0 : (n : Int) ≤ 103 := by omega
       clear hn hle
       go_wp2_with fail
       go_round
       case rel => exact ⟨1, by decide, rfl, by rw [hs.out]; go_num⟩
       case measure => simp [intOf]
      ·have hs := zh (acc_one (v := v) (i := 0) (k := 1) (d := 16) (by decide))
       obtain ⟨n, hn⟩ := zX (accN v 0 1)
       rw [hn] at hle hs ⊢
       have n0 : (n : Int) ≤ 103 := by omega
       clear hn hle
       go_wp2_with fail
       go_round
       case rel => exact ⟨2, by decide, rfl, by rw [hs.out]; go_num⟩
       case measure => simp [intOf]
      ·have hs := zh (acc_one (v := v) (i := 0) (k := 2) (d := 32) (by decide))
       obtain ⟨n, hn⟩ := zX (accN v 0 2)
       rw [hn] at hle hs ⊢
       have n0 : (n : Int) ≤ 103 := by omega
       clear hn hle
       go_wp2_with fail
       go_round
       case rel => exact ⟨3, by decide, rfl, by rw [hs.out]; go_num⟩
       case measure => simp [intOf]
      ·have hs := zh (acc_one (v := v) (i := 0) (k := 3) (d := 64) (by decide))
       obtain ⟨n, hn⟩ := zX (accN v 0 3)
       rw [hn] at hle hs ⊢
       have n0 : (n : Int) ≤ 103 := by omega
       clear hn hle
       go_wp2_with fail
       go_round
       case rel => exact ⟨4, by decide, rfl, by rw [hs.out]; go_num⟩
       case measure => simp [intOf]
      ·have hs := zh (acc_one (v := v) (i := 0) (k := 4) (d := 128) (by decide))
       obtain ⟨n, hn⟩ := zX (accN v 0 4)
       rw [hn] at hle hs ⊢
       have n0 : (n : Int) ≤ 103 := by omega
       clear hn hle
       go_wp2_with fail
       go_round
       case rel => exact ⟨5, by decide, rfl, by rw [hs.out]; go_num⟩
       case measure => simp [intOf]
     ·obtain rfl : j = 5 := by omega
      by_cases hodd : accN v 0 5 % 2 = 1
      ·have hr := zh (H1.out 1 hodd (by decide))
       obtain ⟨n, hn⟩ := zX (accN v 0 5)
       rw [hn] at hodd hle ⊢
       have n0 : (n : Int) ≤ 104 := by omega
       have n1 : (n : Int) % 2 = 1 := by omega
       clear hn hle hodd hlj
       go_wp2_with fail
       go_round
       case rel => exact ⟨1, by decide, rfl, by rw [HA2.out, hr.out]; go_num⟩
       case measure => simp [intOf]
      ·have hr := zh (H2.out hodd)
       obtain ⟨n, hn⟩ := zX (accN v 0 5)
       rw [hn] at hodd hle ⊢
       have n0 : (n : Int) ≤ 104 := by omega
       have n1 : (n : Int) % 2 = 0 := by omega
       clear hn hle hodd hlj
       go_wp2_with fail
       go_round
       case rel => exact ⟨1, by decide, rfl, by rw [HA2.out, hr.out]⟩
       case measure => simp [intOf]
   ·have a0 : (a : Int) < 2 := by have := HA.out; omega
    go_wp2_with fail
    go_loop [5, 6] (fun n k => ∃ j : Nat, j ≤ 5 ∧ k = .int .i64 (j : Int) ∧ n = .int .u8 (accN v 1 j : Nat)) (fun _ k => 5 - (intOf k).toNat)
    case atStart => exact ⟨0, by decide, rfl, rfl⟩
    case round =>
     obtain ⟨j, hj, rfl, rfl⟩ := hrel
     have hle := accN_le v 1 j
     by_cases hlj : j < 5
     ·rcases (show j = 0 ∨ j = 1 ∨ j = 2 ∨ j = 3 ∨ j = 4 by omega) with rfl | rfl | rfl | rfl | rfl
      ·have hs := zh (acc_one (v := v) (i := 1) (k := 0) (d := 2) (by decide))
       obtain ⟨n, hn⟩ := zX (accN v 1 0)
       rw [hn] at hle hs ⊢
       have n0 : (n : Int) ≤ 103 := by omega
       clear hn hle
       go_wp2_with fail
       go_round
       case rel => exact ⟨1, by decide, rfl, by rw [hs.out]; go_num⟩
       case measure => simp [intOf]
      ·have hs := zh (acc_one (v := v) (i := 1) (k := 1) (d := 32) (by decide))
       obtain ⟨n, hn⟩ := zX (accN v 1 1)
       rw [hn] at hle hs ⊢
       have n0 : (n : Int) ≤ 103 := by omega
       clear hn hle
       go_wp2_with fail
       go_round
       case rel => exact ⟨2, by decide, rfl, by rw [hs.out]; go_num⟩
       case measure => simp [intOf]
      ·have hs := zh (acc_one (v := v) (i := 1) (k := 2) (d := 64) (by decide))
       obtain ⟨n, hn⟩ := zX (accN v 1 2)
       rw [hn] at hle hs ⊢
       have n0 : (n : Int) ≤ 103 := by omega
       clear hn hle
       go_wp2_with fail
       go_round
       case rel => exact ⟨3, by decide, rfl, by rw [hs.out]; go_num⟩
       case measure => simp [intOf]
      ·have hs := zh (acc_one (v := v) (i := 1) (k := 3) (d := 128) (by decide))
       obtain ⟨n, hn⟩ := zX (accN v 1 3)
       rw [hn] at hle hs ⊢
       have n0 : (n : Int) ≤ 103 := by omega
       clear hn hle
       go_wp2_with fail
       go_round
       case rel => exact ⟨4, by decide, rfl, by rw [hs.out]; go_num⟩
       case measure => simp [intOf]
      ·have hs := zh (acc_one (v := v) (i := 1) (k := 4) (d := 1) (by decide))
       obtain ⟨n, hn⟩ := zX (accN v 1 4)
       rw [hn] at hle hs ⊢
       have n0 : (n : Int) ≤ 103 := by omega
       clear hn hle
       go_wp2_with fail
       go_round
       case rel => exact ⟨5, by decide, rfl, by rw [hs.out]; go_num⟩
       case measure => simp [intOf]
     ·obtain rfl : j = 5 := by omega
      by_cases hodd : accN v 1 5 % 2 = 1
      ·have hr := zh (H1.out 2 hodd (by decide))
       obtain ⟨n, hn⟩ := zX (accN v 1 5)
       rw [hn] at hodd hle ⊢
       have n0 : (n : Int) ≤ 104 := by omega
       have n1 : (n : Int) % 2 = 1 := by omega
       clear hn hle hodd hlj
       go_wp2_with fail
       go_round
       case rel => exact ⟨2, by decide, rfl, by rw [HA2.out, hr.out]; go_num⟩
       case measure => simp [intOf]
      ·have hr := zh (H2.out hodd)
       obtain ⟨n, hn⟩ := zX (accN v 1 5)
       rw [hn] at hodd hle ⊢
       have n0 : (n : Int) ≤ 104 := by omega
       have n1 : (n : Int) % 2 = 0 := by omega
       clear hn hle hodd hlj
       go_wp2_with fail
       go_round
       case rel => exact ⟨2, by decide, rfl, by rw [HA2.out, hr.out]⟩
       case measure => simp [intOf]
   ·have a0 : (a : Int) < 4 := by have := HA.out; omega
    go_wp2_with fail
    go_loop [5, 6] (fun n k => ∃ j : Nat, j ≤ 5 ∧ k = .int .i64 (j : Int) ∧ n = .int .u8 (accN v 2 j : Nat)) (fun _ k => 5 - (intOf k).toNat)
    case atStart => exact ⟨0, by decide, rfl, rfl⟩
    case round =>
     obtain ⟨j, hj, rfl, rfl⟩ := hrel
     have hle := accN_le v 2 j
     by_cases hlj : j < 5
     ·rcases (show j = 0 ∨ j = 1 ∨ j = 2 ∨ j = 3 ∨ j = 4 by omega) with rfl | rfl | rfl | rfl | rfl
      ·have hs := zh (acc_one (v := v) (i := 2) (k := 0) (d := 4) (by decide))
       obtain ⟨n, hn⟩ := zX (accN v 2 0)
       rw [hn] at hle hs ⊢
       have n0 : (n : Int) ≤ 103 := by omega
       clear hn hle
       go_wp2_with fail
       go_round
       case rel => exact ⟨1, by decide, rfl, by rw [hs.out]; go_num⟩
       case measure => simp [intOf]
      ·have hs := zh (acc_one (v := v) (i := 2) (k := 1) (d := 64) (by decide))
       obtain ⟨n, hn⟩ := zX (accN v 2 1)
       rw [hn] at hle hs ⊢
       have n0 : (n : Int) ≤ 103 := by omega
       clear hn hle
       go_wp2_with fail
       go_round
       case rel => exact ⟨2, by decide, rfl, by rw [hs.out]; go_num⟩
       case measure => simp [intOf]
      ·have hs := zh (acc_one (v := v) (i := 2) (k := 2) (d := 128) (by decide))
       obtain ⟨n, hn⟩ := zX (accN v 2 2)
       rw [hn] at hle hs ⊢
       have n0 : (n : Int) ≤ 103 := by omega
       clear hn hle
       go_wp2_with fail
       go_round
       case rel => exact ⟨3, by decide, rfl, by rw [hs.out]; go_num⟩
       case measure => simp [intOf]
      ·have hs := zh (acc_one (v := v) (i := 2) (k := 3) (d := 1) (by decide))
       obtain ⟨n, hn⟩ := zX (accN v 2 3)
       rw [hn] at hle hs ⊢
       have n0 : (n : Int) ≤ 103 := by omega
       clear hn hle
       go_wp2_with fail
       go_round
       case rel => exact ⟨4, by decide, rfl, by rw [hs.out]; go_num⟩
       case measure => simp [intOf]
      ·have hs := zh (acc_one (v := v) (i := 2) (k := 4) (d := 2) (by decide))
       obtain ⟨n, hn⟩ := zX (accN v 2 4)
       rw [hn] at hle hs ⊢
       have n0 : (n : Int) ≤ 103 := by omega
       clear hn hle
       go_wp2_with fail
       go_round
       case rel => exact ⟨5, by decide, rfl, by rw [hs.out]; go_num⟩
       case measure => simp [intOf]
     ·obtain rfl : j = 5 := by omega
      by_cases hodd : accN v 2 5 % 2 = 1
      ·have hr := zh (H1.out 4 hodd (by decide))
       obtain ⟨n, hn⟩ := zX (accN v 2 5)
       rw [hn] at hodd hle ⊢
       have n0 : (n : Int) ≤ 104 := by omega
       have n1 : (n : Int) % 2 = 1 := by omega
       clear hn hle hodd hlj
       go_wp2_with fail
       go_round
       case rel => exact ⟨3, by decide, rfl, by rw [HA2.out, hr.out]; go_num⟩
       case measure => simp [intOf]
      ·have hr := zh (H2.out hodd)
       obtain ⟨n, hn⟩ := zX (accN v 2 5)
       rw [hn] at hodd hle ⊢
       have n0 : (n : Int) ≤ 104 := by omega
       have n1 : (n : Int) % 2 = 0 := by omega
       clear hn hle hodd hlj
       go_wp2_with fail
       go_round
       case rel => exact ⟨3, by decide, rfl, by rw [HA2.out, hr.out]⟩
       case measure => simp [intOf]
   ·have a0 : (a : Int) < 8 := by have := HA.out; omega
    go_wp2_with fail
    go_loop [5, 6] (fun n k => ∃ j : Nat, j ≤ 5 ∧ k = .int .i64 (j : Int) ∧ n = .int .u8 (accN v 3 j : Nat)) (fun _ k => 5 - (intOf k).toNat)
    case atStart => exact ⟨0, by decide, rfl, rfl⟩
    case round =>
     obtain ⟨j, hj, rfl, rfl⟩ := hrel
     have hle := accN_le v 3 j
     by_cases hlj : j < 5
     ·rcases (show j = 0 ∨ j = 1 ∨ j = 2 ∨ j = 3 ∨ j = 4 by omega) with rfl | rfl | rfl | rfl | rfl
      ·have hs := zh (acc_one (v := v) (i := 3) (k := 0) (d := 8) (by decide))
       obtain ⟨n, hn⟩ := zX (accN v 3 0)
       rw [hn] at hle hs ⊢
       have n0 : (n : Int) ≤ 103 := by omega
       clear hn hle
       go_wp2_with fail
       go_round
       case rel => exact ⟨1, by decide, rfl, by rw [hs.out]; go_num⟩
       case measure => simp [intOf]
      ·have hs := zh (acc_one (v := v) (i := 3) (k := 1) (d := 128) (by decide))
       obtain ⟨n, hn⟩ := zX (accN v 3 1)
       rw [hn] at hle hs ⊢
       have n0 : (n : Int) ≤ 103 := by omega
       clear hn hle
       go_wp2_with fail
       go_round
       case rel => exact ⟨2, by decide, rfl, by rw [hs.out]; go_num⟩
       case measure => simp [intOf]
      ·have hs := zh (acc_one (v := v) (i := 3) (k := 2) (d := 1) (by decide))
       obtain ⟨n, hn⟩ := zX (accN v 3 2)
       rw [hn] at hle hs ⊢
       have n0 : (n : Int) ≤ 103 := by omega
       clear hn hle
       go_wp2_with fail
       go_round
       case rel => exact ⟨3, by decide, rfl, by rw [hs.out]; go_num⟩
       case measure => simp [intOf]
      ·have hs := zh (acc_one (v := v) (i := 3) (k := 3) (d := 2) (by decide))
       obtain ⟨n, hn⟩ := zX (accN v 3 3)
       rw [hn] at hle hs ⊢
       have n0 : (n : Int) ≤ 103 := by omega
       clear hn hle
       go_wp2_with fail
       go_round
       case rel => exact ⟨4, by decide, rfl, by rw [hs.out]; go_num⟩
       case measure => simp [intOf]
      ·have hs := zh (acc_one (v := v) (i := 3) (k := 4) (d := 4) (by decide))
       obtain ⟨n, hn⟩ := zX (accN v 3 4)
       rw [hn] at hle hs ⊢
       have n0 : (n : Int) ≤ 103 := by omega
       clear hn hle
       go_wp2_with fail
       go_round
       case rel => exact ⟨5, by decide, rfl, by rw [hs.out]; go_num⟩
       case measure => simp [intOf]
     ·obtain rfl : j = 5 := by omega
      by_cases hodd : accN v 3 5 % 2 = 1
      ·have hr := zh (H1.out 8 hodd (by decide))
       obtain ⟨n, hn⟩ := zX (accN v 3 5)
       rw [hn] at hodd hle ⊢
       have n0 : (n : Int) ≤ 104 := by omega
       have n1 : (n : Int) % 2 = 1 := by omega
       clear hn hle hodd hlj
       go_wp2_with fail
       go_round
       case rel => exact ⟨4, by decide, rfl, by rw [HA2.out, hr.out]; go_num⟩
       case measure => simp [intOf]
      ·have hr := zh (H2.out hodd)
       obtain ⟨n, hn⟩ := zX (accN v 3 5)
       rw [hn] at hodd hle ⊢
       have n0 : (n : Int) ≤ 104 := by omega
       have n1 : (n : Int) % 2 = 0 := by omega
       clear hn hle hodd hlj
       go_wp2_with fail
       go_round
       case rel => exact ⟨4, by decide, rfl, by rw [HA2.out, hr.out]⟩
       case measure => simp [intOf]
   ·have a0 : (a : Int) < 16 := by have := HA.out; omega
    go_wp2_with fail
    go_loop [5, 6] (fun n k => ∃ j : Nat, j ≤ 5 ∧ k = .int .i64 (j : Int) ∧ n = .int .u8 (accN v 4 j : Nat)) (fun _ k => 5 - (intOf k).toNat)
    case atStart => exact ⟨0, by decide, rfl, rfl⟩
    case round =>
     obtain ⟨j, hj, rfl, rfl⟩ := hrel
     have hle := accN_le v 4 j
     by_cases hlj : j < 5
     ·rcases (show j = 0 ∨ j = 1 ∨ j = 2 ∨ j = 3 ∨ j = 4 by omega) with rfl | rfl | rfl | rfl | rfl
      ·have hs := zh (acc_one (v := v) (i := 4) (k := 0) (d := 16) (by decide))
       obtain ⟨n, hn⟩ := zX (accN v 4 0)
       rw [hn] at hle hs ⊢
       have n0 : (n : Int) ≤ 103 := by omega
       clear hn hle
       go_wp2_with fail
       go_round
       case rel => exact ⟨1, by decide, rfl, by rw [hs.out]; go_num⟩
       case measure => simp [intOf]
      ·have hs := zh (acc_one (v := v) (i := 4) (k := 1) (d := 1) (by decide))
       obtain ⟨n, hn⟩ := zX (accN v 4 1)
       rw [hn] at hle hs ⊢
       have n0 : (n : Int) ≤ 103 := by omega
       clear hn hle
       go_wp2_with fail
       go_round
       case rel => exact ⟨2, by decide, rfl, by rw [hs.out]; go_num⟩
       case measure => simp [intOf]
      ·have hs := zh (acc_one (v := v) (i := 4) (k := 2) (d := 2) (by decide))
       obtain ⟨n, hn⟩ := zX (accN v 4 2)
       rw [hn] at hle hs ⊢
       have n0 : (n : Int) ≤ 103 := by omega
       clear hn hle
       go_wp2_with fail
       go_round
       case rel => exact ⟨3, by decide, rfl, by rw [hs.out]; go_num⟩
       case measure => simp [intOf]
      ·have hs := zh (acc_one (v := v) (i := 4) (k := 3) (d := 4) (by decide))
       obtain ⟨n, hn⟩ := zX (accN v 4 3)
       rw [hn] at hle hs ⊢
       have n0 : (n : Int) ≤ 103 := by omega
       clear hn hle
       go_wp2_with fail
       go_round
       case rel => exact ⟨4, by decide, rfl, by rw [hs.out]; go_num⟩
       case measure => simp [intOf]
      ·have hs := zh (acc_one (v := v) (i := 4) (k := 4) (d := 8) (by decide))
       obtain ⟨n, hn⟩ := zX (accN v 4 4)
       rw [hn] at hle hs ⊢
       have n0 : (n : Int) ≤ 103 := by omega
       clear hn hle
       go_wp2_with fail
       go_round
       case rel => exact ⟨5, by decide, rfl, by rw [hs.out]; go_num⟩
       case measure => simp [intOf]
     ·obtain rfl : j = 5 := by omega
      by_cases hodd : accN v 4 5 % 2 = 1
      ·have hr := zh (H1.out 16 hodd (by decide))
       obtain ⟨n, hn⟩ := zX (accN v 4 5)
       rw [hn] at hodd hle ⊢
       have n0 : (n : Int) ≤ 104 := by omega
       have n1 : (n : Int) % 2 = 1 := by omega
       clear hn hle hodd hlj
       go_wp2_with fail
       go_round
       case rel => exact ⟨5, by decide, rfl, by rw [HA2.out, hr.out]; go_num⟩
       case measure => simp [intOf]
      ·have hr := zh (H2.out hodd)
       obtain ⟨n, hn⟩ := zX (accN v 4 5)
       rw [hn] at hodd hle ⊢
       have n0 : (n : Int) ≤ 104 := by omega
       have n1 : (n : Int) % 2 = 0 := by omega
       clear hn hle hodd hlj
       go_wp2_with fail
       go_round
       case rel => exact ⟨5, by decide, rfl, by rw [HA2.out, hr.out]⟩
       case measure => simp [intOf]
   ·have a0 : (a : Int) < 32 := by have := HA.out; omega
    go_wp2_with fail
    go_loop [5, 6] (fun n k => ∃ j : Nat, j ≤ 5 ∧ k = .int .i64 (j : Int) ∧ n = .int .u8 (accN v 5 j : Nat)) (fun _ k => 5 - (intOf k).toNat)
    case atStart => exact ⟨0, by decide, rfl, rfl⟩
    case round =>
     obtain ⟨j, hj, rfl, rfl⟩ := hrel
     have hle := accN_le v 5 j
     by_cases hlj : j < 5
     ·rcases (show j = 0 ∨ j = 1 ∨ j = 2 ∨ j = 3 ∨ j = 4 by omega) with rfl | rfl | rfl | rfl | rfl
      ·have hs := zh (acc_one (v := v) (i := 5) (k := 0) (d := 32) (by decide))
       obtain ⟨n, hn⟩ := zX (accN v 5 0)
       rw [hn] at hle hs ⊢
       have n0 : (n : Int) ≤ 103 := by omega
       clear hn hle
       go_wp2_with fail
       go_round
       case rel => exact ⟨1, by decide, rfl, by rw [hs.out]; go_num⟩
       case measure => simp [intOf]
      ·have hs := zh (acc_one (v := v) (i := 5) (k := 1) (d := 2) (by decide))
       obtain ⟨n, hn⟩ := zX (accN v 5 1)
       rw [hn] at hle hs ⊢
       have n0 : (n : Int) ≤ 103 := by omega
       clear hn hle
       go_wp2_with fail
       go_round
       case rel => exact ⟨2, by decide, rfl, by rw [hs.out]; go_num⟩
       case measure => simp [intOf]
      ·have hs := zh (acc_one (v := v) (i := 5) (k := 2) (d := 4) (by decide))
       obtain ⟨n, hn⟩ := zX (accN v 5 2)
       rw [hn] at hle hs ⊢
       have n0 : (n : Int) ≤ 103 := by omega
       clear hn hle
       go_wp2_with fail
       go_round
       case rel => exact ⟨3, by decide, rfl, by rw [hs.out]; go_num⟩
       case measure => simp [intOf]
      ·have hs := zh (acc_one (v := v) (i := 5) (k := 3) (d := 8) (by decide))
       obtain ⟨n, hn⟩ := zX (accN v 5 3)
       rw [hn] at hle hs ⊢
       have n0 : (n : Int) ≤ 103 := by omega
       clear hn hle
       go_wp2_with fail
       go_round
       case rel => exact ⟨4, by decide, rfl, by rw [hs.out]; go_num⟩
       case measure => simp [intOf]
      ·have hs := zh (acc_one (v := v) (i := 5) (k := 4) (d := 16) (by decide))
       obtain ⟨n, hn⟩ := zX (accN v 5 4)
       rw [hn] at hle hs ⊢
       have n0 : (n : Int) ≤ 103 := by omega
       clear hn hle
       go_wp2_with fail
       go_round
       case rel => exact ⟨5, by decide, rfl, by rw [hs.out]; go_num⟩
       case measure => simp [intOf]
     ·obtain rfl : j = 5 := by omega
      by_cases hodd : accN v 5 5 % 2 = 1
      ·have hr := zh (H1.out 32 hodd (by decide))
       obtain ⟨n, hn⟩ := zX (accN v 5 5)
       rw [hn] at hodd hle ⊢
       have n0 : (n : Int) ≤ 104 := by omega
       have n1 : (n : Int) % 2 = 1 := by omega
       clear hn hle hodd hlj
       go_wp2_with fail
       go_round
       case rel => exact ⟨6, by decide, rfl, by rw [HA2.out, hr.out]; go_num⟩
       case measure => simp [intOf]
      ·have hr := zh (H2.out hodd)
       obtain ⟨n, hn⟩ := zX (accN v 5 5)
       rw [hn] at hodd hle ⊢
       have n0 : (n : Int) ≤ 104 := by omega
       have n1 : (n : Int) % 2 = 0 := by omega
       clear hn hle hodd hlj
       go_wp2_with fail
       go_round
       case rel => exact ⟨6, by decide, rfl, by rw [HA2.out, hr.out]⟩
       case measure => simp [intOf]
   ·have a0 : (a : Int) < 64 := by have := HA.out; omega
    go_wp2_with fail
    go_loop [5, 6] (fun n k => ∃ j : Nat, j ≤ 5 ∧ k = .int .i64 (j : Int) ∧ n = .int .u8 (accN v 6 j : Nat)) (fun _ k => 5 - (intOf k).toNat)
    case atStart => exact ⟨0, by decide, rfl, rfl⟩
    case round =>
     obtain ⟨j, hj, rfl, rfl⟩ := hrel
     have hle := accN_le v 6 j
     by_cases hlj : j < 5
     ·rcases (show j = 0 ∨ j = 1 ∨ j = 2 ∨ j = 3 ∨ j = 4 by omega) with rfl | rfl | rfl | rfl | rfl
      ·have hs := zh (acc_one (v := v) (i := 6) (k := 0) (d := 64) (by decide))
       obtain ⟨n, hn⟩ := zX (accN v 6 0)
       rw [hn] at hle hs ⊢
       have n0 : (n : Int) ≤ 103 := by omega
       clear hn hle
       go_wp2_with fail
       go_round
       case rel => exact ⟨1, by decide, rfl, by rw [hs.out]; go_num⟩
       case measure => simp [intOf]
      ·have hs := zh (acc_one (v := v) (i := 6) (k := 1) (d := 4) (by decide))
       obtain ⟨n, hn⟩ := zX (accN v 6 1)
       rw [hn] at hle hs ⊢
       have n0 : (n : Int) ≤ 103 := by omega
       clear hn hle
       go_wp2_with fail
       go_round
       case rel => exact ⟨2, by decide, rfl, by rw [hs.out]; go_num⟩
       case measure => simp [intOf]
      ·have hs := zh (acc_one (v := v) (i := 6) (k := 2) (d := 8) (by decide))
       obtain ⟨n, hn⟩ := zX (accN v 6 2)
       rw [hn] at hle hs ⊢
       have n0 : (n : Int) ≤ 103 := by omega
       clear hn hle
       go_wp2_with fail
       go_round
       case rel => exact ⟨3, by decide, rfl, by rw [hs.out]; go_num⟩
       case measure => simp [intOf]
      ·have hs := zh (acc_one (v := v) (i := 6) (k := 3) (d := 16) (by decide))
       obtain ⟨n, hn⟩ := zX (accN v 6 3)
       rw [hn] at hle hs ⊢
       have n0 : (n : Int) ≤ 103 := by omega
       clear hn hle
       go_wp2_with fail
       go_round
       case rel => exact ⟨4, by decide, rfl, by rw [hs.out]; go_num⟩
       case measure => simp [intOf]
      ·have hs := zh (acc_one (v := v) (i := 6) (k := 4) (d := 32) (by decide))
       obtain ⟨n, hn⟩ := zX (accN v 6 4)
       rw [hn] at hle hs ⊢
       have n0 : (n : Int) ≤ 103 := by omega
       clear hn hle
       go_wp2_with fail
       go_round
       case rel => exact ⟨5, by decide, rfl, by rw [hs.out]; go_num⟩
       case measure => simp [intOf]
     ·obtain rfl : j = 5 := by omega
      by_cases hodd : accN v 6 5 % 2 = 1
      ·have hr := zh (H1.out 64 hodd (by decide))
       obtain ⟨n, hn⟩ := zX (accN v 6 5)
       rw [hn] at hodd hle ⊢
       have n0 : (n : Int) ≤ 104 := by omega
       have n1 : (n : Int) % 2 = 1 := by omega
       clear hn hle hodd hlj
       go_wp2_with fail
       go_round
       case rel => exact ⟨7, by decide, rfl, by rw [HA2.out, hr.out]; go_num⟩
       case measure => simp [intOf]
      ·have hr := zh (H2.out hodd)
       obtain ⟨n, hn⟩ := zX (accN v 6 5)
       rw [hn] at hodd hle ⊢
       have n0 : (n : Int) ≤ 104 := by omega
       have n1 : (n : Int) % 2 = 0 := by omega
       clear hn hle hodd hlj
       go_wp2_with fail
       go_round
       case rel => exact ⟨7, by decide, rfl, by rw [HA2.out, hr.out]⟩
       case measure => simp [intOf]
   ·have a0 : (a : Int) < 128 := by have := HA.out; omega
    go_wp2_with fail
    go_loop [5, 6] (fun n k => ∃ j : Nat, j ≤ 5 ∧ k = .int .i64 (j : Int) ∧ n = .int .u8 (accN v 7 j : Nat)) (fun _ k => 5 - (intOf k).toNat)
    case atStart => exact ⟨0, by decide, rfl, rfl⟩
    case round =>
     obtain ⟨j, hj, rfl, rfl⟩ := hrel
     have hle := accN_le v 7 j
     by_cases hlj : j < 5
     ·rcases (show j = 0 ∨ j = 1 ∨ j = 2 ∨ j = 3 ∨ j = 4 by omega) with rfl | rfl | rfl | rfl | rfl
      ·have hs := zh (acc_one (v := v) (i := 7) (k := 0) (d := 128) (by decide))
       obtain ⟨n, hn⟩ := zX (accN v 7 0)
       rw [hn] at hle hs ⊢
       have n0 : (n : Int) ≤ 103 := by omega
       clear hn hle
       go_wp2_with fail
       go_round
       case rel => exact ⟨1, by decide, rfl, by rw [hs.out]; go_num⟩
       case measure => simp [intOf]
      ·have hs := zh (acc_one (v := v) (i := 7) (k := 1) (d := 8) (by decide))
       obtain ⟨n, hn⟩ := zX (accN v 7 1)
       rw [hn] at hle hs ⊢
       have n0 : (n : Int) ≤ 103 := by omega
       clear hn hle
       go_wp2_with fail
       go_round
       case rel => exact ⟨2, by decide, rfl, by rw [hs.out]; go_num⟩
       case measure => simp [intOf]
      ·have hs := zh (acc_one (v := v) (i := 7) (k := 2) (d := 16) (by decide))
       obtain ⟨n, hn⟩ := zX (accN v 7 2)
       rw [hn] at hle hs ⊢
       have n0 : (n : Int) ≤ 103 := by omega
       clear hn hle
       go_wp2_with fail
       go_round
       case rel => exact ⟨3, by decide, rfl, by rw [hs.out]; go_num⟩
       case measure => simp [intOf]
      ·have hs := zh (acc_one (v := v) (i := 7) (k := 3) (d := 32) (by decide))
       obtain ⟨n, hn⟩ := zX (accN v 7 3)
       rw [hn] at hle hs ⊢
       have n0 : (n : Int) ≤ 103 := by omega
       clear hn hle
       go_wp2_with fail
       go_round
       case rel => exact ⟨4, by decide, rfl, by rw [hs.out]; go_num⟩
       case measure => simp [intOf]
      ·have hs := zh (acc_one (v := v) (i := 7) (k := 4) (d := 64) (by decide))
       obtain ⟨n, hn⟩ := zX (accN v 7 4)
       rw [hn] at hle hs ⊢
       have n0 : (n : Int) ≤ 103 := by omega
       clear hn hle
       go_wp2_with fail
       go_round
       case rel => exact ⟨5, by decide, rfl, by rw [hs.out]; go_num⟩
       case measure => simp [intOf]
     ·obtain rfl : j = 5 := by omega
      by_cases hodd : accN v 7 5 % 2 = 1
      ·have hr := zh (H1.out 128 hodd (by decide))
       obtain ⟨n, hn⟩ := zX (accN v 7 5)
       rw [hn] at hodd hle ⊢
       have n0 : (n : Int) ≤ 104 := by omega
       have n1 : (n : Int) % 2 = 1 := by omega
       clear hn hle hodd hlj
       go_wp2_with fail
       go_round
       case rel => exact ⟨8, by decide, rfl, by rw [HA2.out, hr.out]; go_num⟩
       case measure => simp [intOf]
      ·have hr := zh (H2.out hodd)
       obtain ⟨n, hn⟩ := zX (accN v 7 5)
       rw [hn] at hodd hle ⊢
       have n0 : (n : Int) ≤ 104 := by omega
       have n1 : (n : Int) % 2 = 0 := by omega
       clear hn hle hodd hlj
       go_wp2_with fail
       go_round
       case rel => exact ⟨8, by decide, rfl, by rw [HA2.out, hr.out]⟩
       case measure => simp [intOf]
  ·obtain rfl : q = 8 := by omega
   rw [HS.out]
   go_wp2_with fail
   go_ret
   exact ⟨rfl, rfl⟩
def timesN (a : Nat) : Nat := if a < 128 then 2 * a else (2 * a - 256) ^^^ 27
theorem times_any (a : Nat) (w : World) (h : a < 256) :
  Calls Tryz.prog 102 #[.int .u8 (a : Int)] w fun e w' => e = .returned (.int .u8 (timesN a : Nat)) ∧ w = w' := by
 by_cases h1 : a < 128
 ·have e1 : timesN a = 2 * a := if_pos h1
  have h2 : (a : Int) < 128 := by omega
  have HE := zh e1
  clear e1 h h1
  go_enter Tryz.func102, Tryz.ntmps102
  go_wp2_with fail
  go_ret
  exact ⟨by rw [HE.out, show ((2 * a : Nat) : Int) = (a : Int) * 2 by omega]; rfl, rfl⟩
 ·have e1 : timesN a = (2 * a - 256) ^^^ 27 := if_neg h1
  have h2 : (128 : Int) ≤ (a : Int) := by omega
  have e0 : IntKind.u8.wrap ((a : Int) * 2) = ((2 * a - 256 : Nat) : Int) := by rw [IntKind.wrap_u8]; omega
  have e3 : bits .xor .u8 ((2 * a - 256 : Nat) : Int) 27 = (((2 * a - 256) ^^^ 27 : Nat) : Int) := u8_xor_nat (2 * a - 256) 27 (by omega) (by decide)
  rw [e1]
  generalize 2 * a - 256 = q at *
  generalize q ^^^ 27 = r at *
  clear e1 h h1
  go_enter Tryz.func102, Tryz.ntmps102
  go_wp2_with fail
  go_ret
  exact ⟨rfl, rfl⟩
end Go.Proofs.YtncfocjmdecapaaGreatDoor
