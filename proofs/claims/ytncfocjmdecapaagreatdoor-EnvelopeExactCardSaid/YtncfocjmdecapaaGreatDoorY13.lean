/- Part of the proof: what stands here serves the walks of the functions that the statement calls. -/
import Derived.Test.YtncfocjmdecapaaGreatDoorY12
namespace Go.Proofs.YtncfocjmdecapaaGreatDoor
set_option linter.unusedVariables false
set_option linter.unusedSimpArgs false
open Go.RowKit
set_option maxRecDepth 100000
set_option maxHeartbeats 8000000
def rot8 (a : Nat) : Nat := (a * 256 % 4294967296) ||| (a / 16777216)
theorem rot8_lt {a : Nat} (h : a < 4294967296) : rot8 a < 4294967296 :=
 Nat.or_lt_two_pow (n := 32) (Nat.mod_lt _ (by decide)) (by show a / 16777216 < 4294967296; omega)
theorem rot32_any (a : Nat) (w : World) (h : a < 4294967296) :
  Calls Tryz.prog 77 #[.int .u32 (a : Nat), .int .i64 8] w fun e w' => e = .returned (.int .u32 (rot8 a : Nat)) ∧ w = w' := by
 have hb : bits .and .u64 8 31 = 8 := by decide
 have e1 : bits .or .u32 ((a : Int) * 256 % 4294967296) ((a : Int) / 16777216) = (rot8 a : Nat) := by
  rw [show (a : Int) * 256 % 4294967296 = ((a * 256 % 4294967296 : Nat) : Int) from by omega, show (a : Int) / 16777216 = ((a / 16777216 : Nat) : Int) from by omega]
  exact u32_or_nat _ _ (Nat.mod_lt _ (by decide)) (by omega)
 have E1 : Hid _ := e1
 clear e1
 go_enter Tryz.func77, Tryz.ntmps77
 go_wp2
 go_ret
 exact ⟨by rw [E1.out]; rfl, rfl⟩
def wordN (x : Nat) : Nat := subN (x / 16777216) * 16777216 + subN (x / 65536 % 256) * 65536 + subN (x / 256 % 256) * 256 + subN (x % 256)
theorem wordN_lt (x : Nat) : wordN x < 4294967296 := by
 have h1 := subN_lt (x / 16777216); have h2 := subN_lt (x / 65536 % 256); have h3 := subN_lt (x / 256 % 256); have h4 := subN_lt (x % 256)
 unfold wordN; omega
theorem wordI_nat (x : Nat) : wordI (x : Int) = (wordN x : Nat) := by
 unfold wordI subI wordN
 rw [show ((x : Int) / 16777216).toNat = x / 16777216 by omega, show ((x : Int) / 65536 % 256).toNat = x / 65536 % 256 by omega, show ((x : Int) / 256 % 256).toNat = x / 256 % 256 by omega, show ((x : Int) % 256).toNat = x % 256 by omega]
 generalize subN (x / 16777216) = a; generalize subN (x / 65536 % 256) = b; generalize subN (x / 256 % 256) = c; generalize subN (x % 256) = d
 omega
def kwN (f : Nat → Nat) (i : Nat) : Nat := f (4 * i) * 16777216 + f (4 * i + 1) * 65536 + f (4 * i + 2) * 256 + f (4 * i + 3)
def lastN (W : Nat → Nat) (n : Nat) : Nat := if n % 8 = 0 then wordN (rot8 (W (n - 1))) ^^^ 2 ^ (23 + n / 8) else if n % 8 = 4 then wordN (W (n - 1)) else W (n - 1)
def exK (f : Nat → Nat) : Nat → Nat → Nat
 | 0 => fun _ => 0
 | n + 1 => upd (exK f n) n (if n < 8 then kwN f n else exK f n (n - 8) ^^^ lastN (exK f n) n)
theorem kwN_lt {f : Nat → Nat} {i : Nat} (h : ∀ k, k < 4 → f (4 * i + k) < 256) : kwN f i < 4294967296 := by
 have h0 := h 0 (by decide); have h1 := h 1 (by decide); have h2 := h 2 (by decide); have h3 := h 3 (by decide)
 rw [Nat.add_zero] at h0
 unfold kwN; omega
theorem lastN_lt {W : Nat → Nat} {n : Nat} (hn : n < 64) (h : W (n - 1) < 4294967296) : lastN W n < 4294967296 := by
 unfold lastN
 split
 ·refine Nat.xor_lt_two_pow (n := 32) (wordN_lt _) ?_
  exact Nat.pow_lt_pow_right (by decide) (by omega)
 ·split
  ·exact wordN_lt _
  ·exact h
theorem exK_lt {f : Nat → Nat} (hf : ∀ i, i < 32 → f i < 256) : ∀ n, n ≤ 60 → ∀ i, exK f n i < 4294967296
 | 0, _, _ => Nat.zero_lt_succ _
 | n + 1, hn, i => by
  show upd (exK f n) n (if n < 8 then kwN f n else exK f n (n - 8) ^^^ lastN (exK f n) n) i < _
  unfold upd
  split
  ·split
   ·exact kwN_lt fun k hk => hf _ (by omega)
   ·exact Nat.xor_lt_two_pow (n := 32) (exK_lt hf n (by omega) _) (lastN_lt (by omega) (exK_lt hf n (by omega) _))
  ·exact exK_lt hf n (by omega) i
theorem build_key (bx : Nat) (w : World) : (Instr.build 155 #[(1, .pointer (some ⟨bx, 0, none⟩))]).run Tryz.prog w = .ok (.agg (keyC (fun _ => 0) bx).toArray) w := run_build w 155 _ _ (by kernel_rfl)
theorem wpList_buildK {ops : Array Oper} {rest : List Oper} {o : Oper} {a : Act} {w : World} {Q : Exit → Act → World → Prop} {C : Array Value} (hgd : o.guard = none) (parts : Array (Nat × Operand)) (ps : Array (Nat × Value)) (ho : o.op = .build 155 parts) (hp : (parts.map fun (i, x) => (i, a.eval x)) = ps) (h : ∀ w, (Instr.build 155 ps).run Tryz.prog w = .ok (.agg C) w)
  (hk : wpList Tryz.prog ops Q rest (a.put o.dst (.agg C)) w) : wpList Tryz.prog ops Q (o :: rest) a w := by
 refine wpList_plain hgd fun K hK => ?_
 unfold Oper.wp execOp
 simp only [ho, hp, Sem.run_bind, h, Result.andThen_ok]
 exact hK _ _ hk
def PB (kb bx : Nat) (w' : World) : Prop := w'.cell? ⟨kb, 60, none⟩ = some (.pointer (some ⟨bx, 0, none⟩))
theorem PB.own {kb bx : Nat} {w w' : World} (h : PB kb bx w) (hO : Own bx w w') (h1 : kb ≠ bx) : PB kb bx w' := hO.cell h h1
def WBG (kb k V : Nat) (w' : World) : Prop := w'.cell? ⟨kb, k, none⟩ = some (.int .u32 (V : Nat))
def NS (w0 : World) (kb bx : Nat) (f : Nat → Nat) (n : Nat) (wr : World) : Prop := KeyB wr kb (exK f n) bx ∧ BoxIn wr bx ∧ Below w0.heap.size w0 wr ∧ w0.heap.size ≤ bx ∧ bx < kb
theorem new_any (f : Nat → Nat) (oa : Option Addr) (cap : Nat) (w : World) (hb : Bytes w oa 32 f) :
  Calls Tryz.prog 54 #[.slice oa 32 cap] w fun e w' => ∃ kb bx, e = .returned (.tuple #[.pointer (some ⟨kb, 0, none⟩), .nilIface]) ∧ NS w kb bx f 60 w' := by
 have hf : ∀ i, i < 32 → f i < 256 := fun i hi => (hb i hi).1
 obtain ⟨_, b, off, rfl, _⟩ := hb 0 (by decide)
 have HC : Hid (∀ i, i < 32 → w.cell? ⟨b, off + i, none⟩ = some (.int .u8 (f i : Nat))) := zh fun i hi => by
  obtain ⟨_, b', o', e, hc⟩ := hb i hi
  cases e; exact hc
 have HF := zh hf
 clear hb hf
 go_enter Tryz.func54, Tryz.ntmps54
 go_wp2_with fail
 refine (sbnew_any _).mono ?_
 rintro e w1 ⟨rfl, hB1, hb1⟩
 obtain ⟨bx, hbx⟩ := zX w.heap.size
 rw [hbx]
 obtain ⟨K0, hK0⟩ := zX ((keyC (fun _ => 0) bx).toArray)
 have bk : ∀ w, (Instr.build 155 #[(1, .pointer (some ⟨bx, 0, none⟩))]).run Tryz.prog w = .ok (.agg K0) w := fun w => hK0 ▸ build_key bx w
 obtain ⟨kb, hkb⟩ := zX w1.heap.size
 obtain ⟨w2, hw2⟩ := zX (w1.alloc (.cells K0 155))
 have HS : Hid (NS w kb bx f 0 w2) := zh (by
  refine ⟨?_, ?_, ?_, by omega, ?_⟩
  ·show Blk w2 kb (keyC (exK f 0) bx).toArray 155
   rw [show exK f 0 = fun _ => 0 from rfl, hK0, ← hw2, ← hkb]; exact Blk.new _ _ _
  ·rw [← hw2]; rw [hbx] at hB1; exact hB1.below (zA)
  ·rw [← hw2]; exact hb1.alloc hb1.size _
  ·rw [← hkb, ← hbx]; exact hB1.lt)
 have BK := zh bk
 clear hB1 hb1 hK0 bk
 go_wp2_with (first | (refine wpList_buildK rfl #[(1, Go.Operand.tmp 12)] #[(1, .pointer (some ⟨bx, 0, none⟩))] rfl (by simp; rfl) BK.out ?_))
 clear BK hw2 hkb
 go_loopw [15] (fun v wr => ∃ i : Nat, i ≤ 8 ∧ v = .int .i64 (i : Int) ∧ NS w kb bx f i wr) (fun v _ => 8 - (intOf v).toNat)
 case atStart => exact ⟨0, Nat.zero_le _, rfl, HS.out⟩
 case round =>
  clear HS
  obtain ⟨i, hi, rfl, hN⟩ := hrel
  have HN := zh hN
  clear hN
  by_cases hlt : i < 8
  ·have i0 : (0 : Int) ≤ (i : Int) := by omega
   have i1 : (i : Int) < 8 := by omega
   have i6 : (i : Int) < 60 := by omega
   obtain ⟨j0, hj0⟩ := zX (4 * i)
   obtain ⟨j1, hj1⟩ := zX (4 * i + 1)
   obtain ⟨j2, hj2⟩ := zX (4 * i + 2)
   obtain ⟨j3, hj3⟩ := zX (4 * i + 3)
   have m0 : IntKind.i64.wrap (4 * (i : Int)) = (j0 : Int) := by rw [IntWalk.i64_in _ (by omega)]; omega
   have m1 : IntKind.i64.wrap ((j0 : Int) + 1) = (j1 : Int) := by rw [IntWalk.i64_in _ (by omega)]; omega
   have m2 : IntKind.i64.wrap ((j0 : Int) + 2) = (j2 : Int) := by rw [IntWalk.i64_in _ (by omega)]; omega
   have m3 : IntKind.i64.wrap ((j0 : Int) + 3) = (j3 : Int) := by rw [IntWalk.i64_in _ (by omega)]; omega
   have a0 : (0 : Int) ≤ (j0 : Int) := by omega
   have a1 : (j0 : Int) < 32 := by omega
   have a2 : (0 : Int) ≤ (j1 : Int) := by omega
   have a3 : (j1 : Int) < 32 := by omega
   have a4 : (0 : Int) ≤ (j2 : Int) := by omega
   have a5 : (j2 : Int) < 32 := by omega
   have a6 : (0 : Int) ≤ (j3 : Int) := by omega
   have a7 : (j3 : Int) < 32 := by omega
   have HC0 := zh (HC.out j0 (by omega))
   have HC1 := zh (HC.out j1 (by omega))
   have HC2 := zh (HC.out j2 (by omega))
   have HC3 := zh (HC.out j3 (by omega))
   have b0 := HF.out j0 (by omega)
   have b1 := HF.out j1 (by omega)
   have b2 := HF.out j2 (by omega)
   have b3 := HF.out j3 (by omega)
   have hkw : kwN f i = f j0 * 16777216 + f j1 * 65536 + f j2 * 256 + f j3 := by unfold kwN; rw [hj1, hj2, hj3, hj0]
   have HKW := zh hkw
   clear hkw hj0 hj1 hj2 hj3
   generalize f j0 = x0 at *
   generalize f j1 = x1 at *
   generalize f j2 = x2 at *
   generalize f j3 = x3 at *
   have c0 : IntKind.u32.wrap (x0 : Int) = (x0 : Int) := by rw [IntKind.wrap_u32]; omega
   have c1 : IntKind.u32.wrap (x1 : Int) = (x1 : Int) := by rw [IntKind.wrap_u32]; omega
   have c2 : IntKind.u32.wrap (x2 : Int) = (x2 : Int) := by rw [IntKind.wrap_u32]; omega
   have c3 : IntKind.u32.wrap (x3 : Int) = (x3 : Int) := by rw [IntKind.wrap_u32]; omega
   have d0 : IntKind.u32.wrap ((x0 : Int) * 16777216) = (x0 : Int) * 16777216 := by rw [IntKind.wrap_u32]; omega
   have d1 : IntKind.u32.wrap ((x1 : Int) * 65536) = (x1 : Int) * 65536 := by rw [IntKind.wrap_u32]; omega
   have d2 : IntKind.u32.wrap ((x2 : Int) * 256) = (x2 : Int) * 256 := by rw [IntKind.wrap_u32]; omega
   have e4 := u32_join4 (y3 := (x0 : Int)) (y2 := x1) (y1 := x2) (y0 := x3) (by omega) (by omega) (by omega) (by omega)
   obtain ⟨KW, hK⟩ := zX (x0 * 16777216 + x1 * 65536 + x2 * 256 + x3)
   have HKK : Hid (kwN f i = KW) := zh (by rw [HKW.out, hK])
   have e5 : (x0 : Int) * 16777216 + (x1 : Int) * 65536 + (x2 : Int) * 256 + (x3 : Int) = (KW : Int) := by omega
   rw [e5] at e4
   clear e5 hK HKW b0 b1 b2 b3
   go_wp2_with fail
   have hP_0 : Below w.heap.size w wr.drew := HN.out.2.2.1.drew
   have hK_0 : KeyB wr.drew kb (exK f i) bx := HN.out.1
   have hI_0 : BoxIn wr.drew bx := HN.out.2.1
   refine wp_region_held_drew (S := (Below w.heap.size w)) (by kernel_rfl) ?_ (fun hHeld => ?_)
   ·(try dsimp only)
    first | assumption
   generalize wr.drew = W0 at *
   refine wT 0 ?_ rfl ?_ ?_
   rotate_left
   ·intro wS hSw
    (try dsimp only at hSw)
    go_simp
    (try with_reducible rfl)
   (try simp only [Act.put, zS])
   refine wT 1 ?_ rfl ?_ ?_
   rotate_left
   ·intro wS hSw
    (try dsimp only at hSw)
    go_simp
    (try with_reducible rfl)
   (try simp only [Act.put, zS])
   refine wT 2 ?_ rfl ?_ ?_
   rotate_left
   ·intro wS hSw
    (try dsimp only at hSw)
    go_simp
    (try with_reducible rfl)
   (try simp only [Act.put, zS])
   refine wT 3 ?_ rfl ?_ ?_
   rotate_left
   ·intro wS hSw
    (try dsimp only at hSw)
    go_simp
    (try with_reducible rfl)
   (try simp only [Act.put, zS])
   refine wT 4 ?_ rfl ?_ ?_
   rotate_left
   ·intro wS hSw
    (try dsimp only at hSw)
    go_simp
    (try with_reducible rfl)
   (try simp only [Act.put, zS])
   refine wT 5 ?_ rfl ?_ ?_
   rotate_left
   ·intro wS hSw
    (try dsimp only at hSw)
    go_simp
    (try with_reducible rfl)
   (try simp only [Act.put, zS])
   refine wT 6 ?_ rfl ?_ ?_
   rotate_left
   ·intro wS hSw
    (have c9 := cell_below hSw HC0.out; go_simp; (try with_reducible rfl))
   (try simp only [Act.put, zS])
   refine wT 7 ?_ rfl ?_ ?_
   rotate_left
   ·intro wS hSw
    (try dsimp only at hSw)
    go_simp
    (try with_reducible rfl)
   (try simp only [Act.put, zS])
   refine wT 8 ?_ rfl ?_ ?_
   rotate_left
   ·intro wS hSw
    (try dsimp only at hSw)
    go_simp
    (try with_reducible rfl)
   (try simp only [Act.put, zS])
   refine wT 9 ?_ rfl ?_ ?_
   rotate_left
   ·intro wS hSw
    (try dsimp only at hSw)
    go_simp
    (try with_reducible rfl)
   (try simp only [Act.put, zS])
   refine wT 10 ?_ rfl ?_ ?_
   rotate_left
   ·intro wS hSw
    (try dsimp only at hSw)
    go_simp
    (try with_reducible rfl)
   (try simp only [Act.put, zS])
   refine wT 11 ?_ rfl ?_ ?_
   rotate_left
   ·intro wS hSw
    (try dsimp only at hSw)
    go_simp
    (try with_reducible rfl)
   (try simp only [Act.put, zS])
   refine wT 12 ?_ rfl ?_ ?_
   rotate_left
   ·intro wS hSw
    (try dsimp only at hSw)
    go_simp
    (try with_reducible rfl)
   (try simp only [Act.put, zS])
   refine wT 13 ?_ rfl ?_ ?_
   rotate_left
   ·intro wS hSw
    (try dsimp only at hSw)
    go_simp
    (try with_reducible rfl)
   (try simp only [Act.put, zS])
   refine wT 14 ?_ rfl ?_ ?_
   rotate_left
   ·intro wS hSw
    (have c9 := cell_below hSw HC1.out; go_simp; (try with_reducible rfl))
   (try simp only [Act.put, zS])
   refine wT 15 ?_ rfl ?_ ?_
   rotate_left
   ·intro wS hSw
    (try dsimp only at hSw)
    go_simp
    (try with_reducible rfl)
   (try simp only [Act.put, zS])
   refine wT 16 ?_ rfl ?_ ?_
   rotate_left
   ·intro wS hSw
    (try dsimp only at hSw)
    go_simp
    (try with_reducible rfl)
   (try simp only [Act.put, zS])
   refine wT 17 ?_ rfl ?_ ?_
   rotate_left
   ·intro wS hSw
    (try dsimp only at hSw)
    go_simp
    (try with_reducible rfl)
   (try simp only [Act.put, zS])
   refine wT 18 ?_ rfl ?_ ?_
   rotate_left
   ·intro wS hSw
    (try dsimp only at hSw)
    go_simp
    (try with_reducible rfl)
   (try simp only [Act.put, zS])
   refine wT 19 ?_ rfl ?_ ?_
   rotate_left
   ·intro wS hSw
    (try dsimp only at hSw)
    go_simp
    (try with_reducible rfl)
   (try simp only [Act.put, zS])
   refine wT 20 ?_ rfl ?_ ?_
   rotate_left
   ·intro wS hSw
    (try dsimp only at hSw)
    go_simp
    (try with_reducible rfl)
   (try simp only [Act.put, zS])
   refine wT 21 ?_ rfl ?_ ?_
   rotate_left
   ·intro wS hSw
    (try dsimp only at hSw)
    go_simp
    (try with_reducible rfl)
   (try simp only [Act.put, zS])
   refine wT 22 ?_ rfl ?_ ?_
   rotate_left
   ·intro wS hSw
    (try dsimp only at hSw)
    go_simp
    (try with_reducible rfl)
   (try simp only [Act.put, zS])
   refine wT 23 ?_ rfl ?_ ?_
   rotate_left
   ·intro wS hSw
    (have c9 := cell_below hSw HC2.out; go_simp; (try with_reducible rfl))
   (try simp only [Act.put, zS])
   refine wT 24 ?_ rfl ?_ ?_
   rotate_left
   ·intro wS hSw
    (try dsimp only at hSw)
    go_simp
    (try with_reducible rfl)
   (try simp only [Act.put, zS])
   refine wT 25 ?_ rfl ?_ ?_
   rotate_left
   ·intro wS hSw
    (try dsimp only at hSw)
    go_simp
    (try with_reducible rfl)
   (try simp only [Act.put, zS])
   refine wT 26 ?_ rfl ?_ ?_
   rotate_left
   ·intro wS hSw
    (try dsimp only at hSw)
    go_simp
    (try with_reducible rfl)
   (try simp only [Act.put, zS])
   refine wT 27 ?_ rfl ?_ ?_
   rotate_left
   ·intro wS hSw
    (try dsimp only at hSw)
    go_simp
    (try with_reducible rfl)
   (try simp only [Act.put, zS])
   refine wT 28 ?_ rfl ?_ ?_
   rotate_left
   ·intro wS hSw
    (try dsimp only at hSw)
    go_simp
    (try with_reducible rfl)
   (try simp only [Act.put, zS])
   refine wT 29 ?_ rfl ?_ ?_
   rotate_left
   ·intro wS hSw
    (try dsimp only at hSw)
    go_simp
    (try with_reducible rfl)
   (try simp only [Act.put, zS])
   refine wT 30 ?_ rfl ?_ ?_
   rotate_left
   ·intro wS hSw
    (try dsimp only at hSw)
    go_simp
    (try with_reducible rfl)
   (try simp only [Act.put, zS])
   refine wT 31 ?_ rfl ?_ ?_
   rotate_left
   ·intro wS hSw
    (try dsimp only at hSw)
    go_simp
    (try with_reducible rfl)
   (try simp only [Act.put, zS])
   refine wT 32 ?_ rfl ?_ ?_
   rotate_left
   ·intro wS hSw
    (have c9 := cell_below hSw HC3.out; go_simp; (try with_reducible rfl))
   (try simp only [Act.put, zS])
   refine wT 33 ?_ rfl ?_ ?_
   rotate_left
   ·intro wS hSw
    (try dsimp only at hSw)
    go_simp
    (try with_reducible rfl)
   (try simp only [Act.put, zS])
   refine wT 34 ?_ rfl ?_ ?_
   rotate_left
   ·intro wS hSw
    (try dsimp only at hSw)
    go_simp
    (try with_reducible rfl)
   (try simp only [Act.put, zS])
   refine wT 35 ?_ rfl ?_ ?_
   rotate_left
   ·intro wS hSw
    (try dsimp only at hSw)
    go_simp
    (try with_reducible rfl)
   (try simp only [Act.put, zS])
   refine wT 36 ?_ rfl ?_ ?_
   rotate_left
   ·intro wS hSw
    (try dsimp only at hSw)
    go_simp
    (try with_reducible rfl)
   (try simp only [Act.put, zS])
   refine wT 37 ?_ rfl ?_ ?_
   rotate_left
   ·intro wS hSw
    (try dsimp only at hSw)
    go_simp
    (try with_reducible rfl)
   (try simp only [Act.put, zS])
   refine wR [38] ?_
   refine aN rfl fun K hK => ?_
   (have c8 : W0.cell? ⟨kb, i, none⟩ = some (.int .u32 (exK f i i : Nat)) := KeyB.word hK_0 (by omega); have z8 : W0.frozen? ⟨kb, i, none⟩ = false := Blk.free hK_0 _; go_simp; clear c8 z8; obtain ⟨v_1, hw_1⟩ := zX (W0.setCell ⟨kb, i, none⟩ (.int .u32 (KW : Nat))); rw [hw_1]; have HN2 : Hid (NS w kb bx f (i + 1) v_1) := zh (by
     obtain ⟨_, _, _, q4, q5⟩ := HN.out
     rw [← hw_1]
     refine ⟨?_, BoxIn.own hI_0 ((Own.refl _ _).set _ _) (by omega), hP_0.setCell (by simp; omega) _, q4, q5⟩
     have e : exK f (i + 1) = upd (exK f i) i KW := by
      show upd (exK f i) i (if i < 8 then kwN f i else exK f i (i - 8) ^^^ lastN (exK f i) i) = _
      rw [if_pos hlt, HKK.out]
     rw [e]; exact KeyB.set hK_0 (by omega)); have hP_1 := HN2.out.2.2.1; clear hP_0 hw_1 hK_0 hI_0; skip)
   refine hK.out _ _ ?_ fun hHeld => ?_
   ·(try dsimp only)
    first | assumption
   clear hK K
   (try simp only [Act.put, zS])
   refine wpAnyH_done (by kernel_rfl) ?_ _
   clear hP_1
   go_wp2_with fail
   go_roundw
   case rel => exact ⟨i + 1, by omega, by go_num, HN2.out⟩
   case measure => simp [intOf]; omega
  ·obtain rfl : i = 8 := by omega
   clear hi hlt
   rw [show ((8 : Nat) : Int) = 8 from rfl]
   go_wp2_with fail
   go_loopw [6] (fun v wr => ∃ n : Nat, 8 ≤ n ∧ n ≤ 60 ∧ v = .int .i64 (n : Int) ∧ NS w kb bx f n wr) (fun v _ => 60 - (intOf v).toNat)
   case atStart => exact ⟨8, by decide, by decide, rfl, HN.out⟩
   case round =>
    clear HN
    obtain ⟨n, hn8, hn60, rfl, hN⟩ := hrel
    have HN := zh hN
    clear hN
    by_cases hlt : n < 60
    ·have n0 : (8 : Int) ≤ (n : Int) := by omega
     have n1 : (n : Int) < 60 := by omega
     have hl : ∀ i, exK f n i < 4294967296 := exK_lt HF.out n hn60
     have hex : exK f (n + 1) = upd (exK f n) n (exK f n (n - 8) ^^^ lastN (exK f n) n) := by
      show upd (exK f n) n (if n < 8 then kwN f n else exK f n (n - 8) ^^^ lastN (exK f n) n) = _
      rw [if_neg (by omega)]
     have hK := HN.out.1
     obtain ⟨W, hW⟩ := zX (exK f n)
     rw [hW] at hl hex hK
     have HNW : Hid (BoxIn wr bx ∧ Below w.heap.size w wr ∧ w.heap.size ≤ bx ∧ bx < kb) := zh HN.out.2
     have HEX := zh hex
     have HK := zh hK
     have HL := zh hl
     have cp : wr.cell? ⟨kb, n - 1, none⟩ = some (.int .u32 (W (n - 1) : Nat)) := hK.word (by omega)
     have HPL := zh (hl (n - 1))
     obtain ⟨P, hP⟩ := zX (W (n - 1))
     have HP := zh hP
     rw [hP] at cp HPL
     clear hl hex hK hW hP HN
     by_cases h8 : n % 8 = 0
     ·have m8 : (n : Int) % 8 = 0 := by omega
      obtain ⟨d, hd⟩ := zX (n / 8)
      obtain ⟨s, hs⟩ := zX (23 + d)
      obtain ⟨R, hR⟩ := zX (rot8 P)
      obtain ⟨Y, hY⟩ := zX (wordN R)
      have q1 : (n : Int).tdiv 8 = (d : Int) := by rw [Int.tdiv_eq_ediv_of_nonneg (by omega)]; omega
      have q2 : IntKind.i64.wrap (d : Int) = (d : Int) := IntWalk.i64_in _ (by omega)
      have q3 : IntKind.i64.wrap (23 + (d : Int)) = (s : Int) := by rw [IntWalk.i64_in _ (by omega)]; omega
      have s0 : (0 : Int) ≤ (s : Int) := by omega
      have s1 : (s : Int) < 31 := by omega
      have hRl : R < 4294967296 := hR ▸ rot8_lt HPL.out
      have HRW : Hid (0 ≤ ((R : Nat) : Int) ∧ ((R : Nat) : Int) < 4294967296) := zh (by omega)
      have HWI : Hid (wordI (R : Int) = ((Y : Nat) : Int)) := zh (by rw [wordI_nat, hY])
      have HROT : Hid (∀ w, Calls Tryz.prog 77 #[.int .u32 (P : Nat), .int .i64 8] w fun e w' => e = .returned (.int .u32 (R : Nat)) ∧ w = w') := zh fun w => by rw [← hR]; exact rot32_any P w HPL.out
      have hYl : Y < 4294967296 := hY ▸ wordN_lt R
      have hp2 : 2 ^ s < 4294967296 := Nat.lt_of_lt_of_le (Nat.pow_lt_pow_right (by decide) (show s < 32 by omega)) (by decide)
      obtain ⟨Q, hQ⟩ := zX (2 ^ s)
      have hQi : (2 : Int) ^ s = (Q : Int) := by rw [← hQ]; push_cast; rfl
      rw [hQ] at hp2
      have w2 : IntKind.u32.wrap ((2 : Int) ^ s) = (Q : Int) := by rw [hQi, IntKind.wrap_u32]; clear hQi hQ; omega
      have hx2 : bits .xor .u32 (Y : Int) (IntKind.u32.wrap ((2 : Int) ^ s)) = ((Y ^^^ Q : Nat) : Int) := by rw [w2]; exact u32_xor_nat _ _ hYl hp2
      have hTl : Y ^^^ Q < 4294967296 := Nat.xor_lt_two_pow (n := 32) hYl hp2
      clear w2 hQi
      have HLN : Hid (lastN W n = Y ^^^ Q) := zh (by unfold lastN; rw [if_pos h8, HP.out, hR, hY, hd, hs, hQ])
      obtain ⟨T, hT⟩ := zX (Y ^^^ Q)
      rw [hT] at HLN hx2 hTl
      have HTL := zh hTl
      clear hd hs hR hY hRl hp2 hYl hT hTl hQ
      go_wp2_with fail
      have hB_0 : PB kb bx wr.drew := HK.out.box
      have hI_0 : BoxIn wr.drew bx := HNW.out.1
      have hQ_0 : Own bx wr wr.drew := (Own.refl bx wr).drew
      refine wp_region_held_drew (S := (PB kb bx)) (by kernel_rfl) ?_ (fun hHeld => ?_)
      ·(try dsimp only)
       first | assumption
      generalize wr.drew = W0 at *
      refine wT 0 ?_ rfl ?_ ?_
      rotate_left
      ·intro wS hSw
       (try dsimp only at hSw)
       go_simp
       (try with_reducible rfl)
      (try simp only [Act.put, zS])
      refine wT 1 ?_ rfl ?_ ?_
      rotate_left
      ·intro wS hSw
       (try dsimp only at hSw)
       go_simp
       (try with_reducible rfl)
      (try simp only [Act.put, zS])
      refine wT 2 ?_ rfl ?_ ?_
      rotate_left
      ·intro wS hSw
       (try dsimp only at hSw)
       go_simp
       (try with_reducible rfl)
      (try simp only [Act.put, zS])
      refine wT 3 ?_ rfl ?_ ?_
      rotate_left
      ·intro wS hSw
       (have c9 : _ = _ := hSw; go_simp; (try with_reducible rfl))
      (try simp only [Act.put, zS])
      refine wT 4 ?_ rfl ?_ ?_
      rotate_left
      ·intro wS hSw
       (try dsimp only at hSw)
       go_simp
       (try with_reducible rfl)
      (try simp only [Act.put, zS])
      refine wT 7 ?_ rfl ?_ ?_
      rotate_left
      ·intro wS hSw
       (try dsimp only at hSw)
       go_simp
       (try with_reducible rfl)
      (try simp only [Act.put, zS])
      refine wT 8 ?_ rfl ?_ ?_
      rotate_left
      ·intro wS hSw
       (try dsimp only at hSw)
       go_simp
       (try with_reducible rfl)
      (try simp only [Act.put, zS])
      refine wT 9 ?_ rfl ?_ ?_
      rotate_left
      ·intro wS hSw
       (try dsimp only at hSw)
       go_simp
       (try with_reducible rfl)
      (try simp only [Act.put, zS])
      refine wT 10 ?_ rfl ?_ ?_
      rotate_left
      ·intro wS hSw
       (try dsimp only at hSw)
       go_simp
       (try with_reducible rfl)
      (try simp only [Act.put, zS])
      refine wR [5] ?_
      refine aN rfl fun K hK => ?_
      go_simp
      (refine (HROT.out _).mono ?_; rintro e w4 ⟨rfl, rfl⟩; skip)
      (try go_wp2_with fail)
      refine hK.out _ _ ?_ fun hHeld => ?_
      ·(try dsimp only)
       first | assumption
      clear hK K
      (try simp only [Act.put, zS])
      refine wR [6] ?_
      refine aN rfl fun K hK => ?_
      go_simp
      (refine (word_i _ hI_0 HRW.out HWI.out).mono ?_; rintro e v_3 ⟨rfl, hb_3⟩; have hI_3 := hb_3.1; have hQ_3 := Own.trans hQ_0 hb_3.2; have hB_3 := PB.own hB_0 hb_3.2 (by have := HNW.out.2.2.2; omega); clear hb_3 hI_0 hQ_0 hB_0; skip)
      (try go_wp2_with fail)
      refine hK.out _ _ ?_ fun hHeld => ?_
      ·(try dsimp only)
       first | assumption
      clear hK K
      (try simp only [Act.put, zS])
      refine wT 11 ?_ rfl ?_ ?_
      rotate_left
      ·intro wS hSw
       (try dsimp only at hSw)
       go_simp
       (try with_reducible rfl)
      (try simp only [Act.put, zS])
      refine wT 12 ?_ rfl ?_ ?_
      rotate_left
      ·intro wS hSw
       (try dsimp only at hSw)
       go_simp
       (try with_reducible rfl)
      (try simp only [Act.put, zS])
      refine wpAnyH_done (by kernel_rfl) ?_ _
      clear hB_3 q1 q2 q3 s0 s1 HROT HRW HWI
      go_wp2_with fail
      have hI_0 : BoxIn v_3.drew bx := hI_3
      have hQ_0 : Own bx wr v_3.drew := hQ_3.drew
      clear hI_3 hQ_3
      obtain ⟨k8, hk8⟩ := zX (n - 8)
      have r1 : IntKind.i64.wrap ((n : Int) - 8) = (k8 : Int) := by rw [IntWalk.i64_in _ (by omega)]; omega
      have k80 : (0 : Int) ≤ (k8 : Int) := by omega
      have k81 : (k8 : Int) < 60 := by omega
      have n00 : (0 : Int) ≤ (n : Int) := by omega
      have hnb : kb ≠ bx := by have := HNW.out.2.2.2; omega
      have hK_0 : KeyB v_3.drew kb W bx := hQ_0.blk HK.out hnb
      obtain ⟨V, hV⟩ := zX (W k8)
      have hVl : V < 4294967296 := hV ▸ HL.out k8
      have hB_0 : WBG kb k8 V v_3.drew := by have := hK_0.word (show k8 < 60 by omega); rw [hV] at this; exact this
      have hxz : bits .xor .u32 (V : Int) (T : Int) = ((V ^^^ T : Nat) : Int) := u32_xor_nat _ _ hVl HTL.out
      obtain ⟨Z, hZ⟩ := zX (V ^^^ T)
      rw [hZ] at hxz
      have HE2 : Hid (exK f (n + 1) = upd W n Z) := zh (by rw [HEX.out, hk8, hV, HLN.out, hZ])
      have HKV : Hid (W k8 = V ∧ k8 ≠ n ∧ k8 < 60) := zh ⟨hV, by omega, by omega⟩
      clear hk8 hV hVl hZ hnb
      refine wp_region_held_drew (S := (WBG kb k8 V)) (by kernel_rfl) ?_ (fun hHeld => ?_)
      ·(try dsimp only)
       first | assumption
      generalize v_3.drew = W8 at *
      refine wT 0 ?_ rfl ?_ ?_
      rotate_left
      ·intro wS hSw
       (try dsimp only at hSw)
       go_simp
       (try with_reducible rfl)
      (try simp only [Act.put, zS])
      refine wT 1 ?_ rfl ?_ ?_
      rotate_left
      ·intro wS hSw
       (try dsimp only at hSw)
       go_simp
       (try with_reducible rfl)
      (try simp only [Act.put, zS])
      refine wT 2 ?_ rfl ?_ ?_
      rotate_left
      ·intro wS hSw
       (try dsimp only at hSw)
       go_simp
       (try with_reducible rfl)
      (try simp only [Act.put, zS])
      refine wT 3 ?_ rfl ?_ ?_
      rotate_left
      ·intro wS hSw
       (try dsimp only at hSw)
       go_simp
       (try with_reducible rfl)
      (try simp only [Act.put, zS])
      refine wT 4 ?_ rfl ?_ ?_
      rotate_left
      ·intro wS hSw
       (try dsimp only at hSw)
       go_simp
       (try with_reducible rfl)
      (try simp only [Act.put, zS])
      refine wT 5 ?_ rfl ?_ ?_
      rotate_left
      ·intro wS hSw
       (try dsimp only at hSw)
       go_simp
       (try with_reducible rfl)
      (try simp only [Act.put, zS])
      refine wT 6 ?_ rfl ?_ ?_
      rotate_left
      ·intro wS hSw
       (try dsimp only at hSw)
       go_simp
       (try with_reducible rfl)
      (try simp only [Act.put, zS])
      refine wT 7 ?_ rfl ?_ ?_
      rotate_left
      ·intro wS hSw
       (try dsimp only at hSw)
       go_simp
       (try with_reducible rfl)
      (try simp only [Act.put, zS])
      refine wT 8 ?_ rfl ?_ ?_
      rotate_left
      ·intro wS hSw
       (have c9 : _ = _ := hSw; go_simp; (try with_reducible rfl))
      (try simp only [Act.put, zS])
      refine wT 9 ?_ rfl ?_ ?_
      rotate_left
      ·intro wS hSw
       (try dsimp only at hSw)
       go_simp
       (try with_reducible rfl)
      (try simp only [Act.put, zS])
      refine wT 10 ?_ rfl ?_ ?_
      rotate_left
      ·intro wS hSw
       (try dsimp only at hSw)
       go_simp
       (try with_reducible rfl)
      (try simp only [Act.put, zS])
      refine wT 11 ?_ rfl ?_ ?_
      rotate_left
      ·intro wS hSw
       (try dsimp only at hSw)
       go_simp
       (try with_reducible rfl)
      (try simp only [Act.put, zS])
      refine wT 12 ?_ rfl ?_ ?_
      rotate_left
      ·intro wS hSw
       (try dsimp only at hSw)
       go_simp
       (try with_reducible rfl)
      (try simp only [Act.put, zS])
      refine wT 13 ?_ rfl ?_ ?_
      rotate_left
      ·intro wS hSw
       (try dsimp only at hSw)
       go_simp
       (try with_reducible rfl)
      (try simp only [Act.put, zS])
      refine wR [14] ?_
      refine aN rfl fun K hK => ?_
      (have c8 : W8.cell? ⟨kb, n, none⟩ = some (.int .u32 (W n : Nat)) := KeyB.word hK_0 hlt; have z8 : W8.frozen? ⟨kb, n, none⟩ = false := Blk.free hK_0 _; go_simp; clear c8 z8; obtain ⟨v_4, hw_4⟩ := zX (W8.setCell ⟨kb, n, none⟩ (.int .u32 (Z : Nat))); rw [hw_4]; have hK9 : KeyB v_4 kb (upd W n Z) bx := (by rw [← hw_4]; exact KeyB.set hK_0 hlt); have hB_4 : WBG kb k8 V v_4 := (by have h9 := hK9.word HKV.out.2.2; have h7 : upd W n Z k8 = V := (if_neg HKV.out.2.1).trans HKV.out.1; rw [h7] at h9; exact h9); have HN3 : Hid (NS w kb bx f (n + 1) v_4) := zh (by
        obtain ⟨_, q3, q4, q5⟩ := HNW.out
        have h6 : Below w.heap.size w W8 := q3.trans (hQ_0.below q4 q3.size)
        rw [← hw_4]
        refine ⟨?_, BoxIn.own hI_0 ((Own.refl _ _).set _ _) (by omega), h6.setCell (by simp; omega) _, q4, q5⟩
        rw [HE2.out]; exact KeyB.set hK_0 hlt); clear hK9 hw_4 hK_0 hI_0 hQ_0; skip)
      refine hK.out _ _ ?_ fun hHeld => ?_
      ·(try dsimp only)
       first | assumption
      clear hK K
      (try simp only [Act.put, zS])
      refine wpAnyH_done (by kernel_rfl) ?_ _
      clear hB_4
      go_wp2_with fail
      go_roundw
      case rel => exact ⟨n + 1, by omega, by omega, by go_num, HN3.out⟩
      case measure => simp [intOf]; omega
     ·have m8 : ¬ (n : Int) % 8 = 0 := by omega
      by_cases h4 : n % 8 = 4
      ·have m4 : (n : Int) % 8 = 4 := by omega
       obtain ⟨T, hT⟩ := zX (wordN P)
       have HWI : Hid (wordI (P : Int) = ((T : Nat) : Int)) := zh (by rw [wordI_nat, hT])
       have HPW : Hid (0 ≤ ((P : Nat) : Int) ∧ ((P : Nat) : Int) < 4294967296) := zh (by have := HPL.out; omega)
       have HLN : Hid (lastN W n = T) := zh (by unfold lastN; rw [if_neg h8, if_pos h4, HP.out, hT])
       have HTL : Hid (T < 4294967296) := zh (hT ▸ wordN_lt P)
       have cb : wr.cell? ⟨kb, 60, none⟩ = some (.pointer (some ⟨bx, 0, none⟩)) := HK.out.box
       clear hT
       go_wp2_with fail
       refine (word_i _ HNW.out.1 HPW.out HWI.out).mono ?_
       rintro e w7 ⟨rfl, hb7⟩
       clear cb
       go_wp2_with fail
       have hI_0 : BoxIn w7.drew bx := hb7.1
       have hQ_0 : Own bx wr w7.drew := hb7.2.drew
       clear hb7
       obtain ⟨k8, hk8⟩ := zX (n - 8)
       have r1 : IntKind.i64.wrap ((n : Int) - 8) = (k8 : Int) := by rw [IntWalk.i64_in _ (by omega)]; omega
       have k80 : (0 : Int) ≤ (k8 : Int) := by omega
       have k81 : (k8 : Int) < 60 := by omega
       have n00 : (0 : Int) ≤ (n : Int) := by omega
       have hnb : kb ≠ bx := by have := HNW.out.2.2.2; omega
       have hK_0 : KeyB w7.drew kb W bx := hQ_0.blk HK.out hnb
       obtain ⟨V, hV⟩ := zX (W k8)
       have hVl : V < 4294967296 := hV ▸ HL.out k8
       have hB_0 : WBG kb k8 V w7.drew := by have := hK_0.word (show k8 < 60 by omega); rw [hV] at this; exact this
       have hxz : bits .xor .u32 (V : Int) (T : Int) = ((V ^^^ T : Nat) : Int) := u32_xor_nat _ _ hVl HTL.out
       obtain ⟨Z, hZ⟩ := zX (V ^^^ T)
       rw [hZ] at hxz
       have HE2 : Hid (exK f (n + 1) = upd W n Z) := zh (by rw [HEX.out, hk8, hV, HLN.out, hZ])
       have HKV : Hid (W k8 = V ∧ k8 ≠ n ∧ k8 < 60) := zh ⟨hV, by omega, by omega⟩
       clear hk8 hV hVl hZ hnb
       refine wp_region_held_drew (S := (WBG kb k8 V)) (by kernel_rfl) ?_ (fun hHeld => ?_)
       ·(try dsimp only)
        first | assumption
       generalize w7.drew = W8 at *
       refine wT 0 ?_ rfl ?_ ?_
       rotate_left
       ·intro wS hSw
        (try dsimp only at hSw)
        go_simp
        (try with_reducible rfl)
       (try simp only [Act.put, zS])
       refine wT 1 ?_ rfl ?_ ?_
       rotate_left
       ·intro wS hSw
        (try dsimp only at hSw)
        go_simp
        (try with_reducible rfl)
       (try simp only [Act.put, zS])
       refine wT 2 ?_ rfl ?_ ?_
       rotate_left
       ·intro wS hSw
        (try dsimp only at hSw)
        go_simp
        (try with_reducible rfl)
       (try simp only [Act.put, zS])
       refine wT 3 ?_ rfl ?_ ?_
       rotate_left
       ·intro wS hSw
        (try dsimp only at hSw)
        go_simp
        (try with_reducible rfl)
       (try simp only [Act.put, zS])
       refine wT 4 ?_ rfl ?_ ?_
       rotate_left
       ·intro wS hSw
        (try dsimp only at hSw)
        go_simp
        (try with_reducible rfl)
       (try simp only [Act.put, zS])
       refine wT 5 ?_ rfl ?_ ?_
       rotate_left
       ·intro wS hSw
        (try dsimp only at hSw)
        go_simp
        (try with_reducible rfl)
       (try simp only [Act.put, zS])
       refine wT 6 ?_ rfl ?_ ?_
       rotate_left
       ·intro wS hSw
        (try dsimp only at hSw)
        go_simp
        (try with_reducible rfl)
       (try simp only [Act.put, zS])
       refine wT 7 ?_ rfl ?_ ?_
       rotate_left
       ·intro wS hSw
        (try dsimp only at hSw)
        go_simp
        (try with_reducible rfl)
       (try simp only [Act.put, zS])
       refine wT 8 ?_ rfl ?_ ?_
       rotate_left
       ·intro wS hSw
        (have c9 : _ = _ := hSw; go_simp; (try with_reducible rfl))
       (try simp only [Act.put, zS])
       refine wT 9 ?_ rfl ?_ ?_
       rotate_left
       ·intro wS hSw
        (try dsimp only at hSw)
        go_simp
        (try with_reducible rfl)
       (try simp only [Act.put, zS])
       refine wT 10 ?_ rfl ?_ ?_
       rotate_left
       ·intro wS hSw
        (try dsimp only at hSw)
        go_simp
        (try with_reducible rfl)
       (try simp only [Act.put, zS])
       refine wT 11 ?_ rfl ?_ ?_
       rotate_left
       ·intro wS hSw
        (try dsimp only at hSw)
        go_simp
        (try with_reducible rfl)
       (try simp only [Act.put, zS])
       refine wT 12 ?_ rfl ?_ ?_
       rotate_left
       ·intro wS hSw
        (try dsimp only at hSw)
        go_simp
        (try with_reducible rfl)
       (try simp only [Act.put, zS])
       refine wT 13 ?_ rfl ?_ ?_
       rotate_left
       ·intro wS hSw
        (try dsimp only at hSw)
        go_simp
        (try with_reducible rfl)
       (try simp only [Act.put, zS])
       refine wR [14] ?_
       refine aN rfl fun K hK => ?_
       (have c8 : W8.cell? ⟨kb, n, none⟩ = some (.int .u32 (W n : Nat)) := KeyB.word hK_0 hlt; have z8 : W8.frozen? ⟨kb, n, none⟩ = false := Blk.free hK_0 _; go_simp; clear c8 z8; obtain ⟨v_5, hw_5⟩ := zX (W8.setCell ⟨kb, n, none⟩ (.int .u32 (Z : Nat))); rw [hw_5]; have hK9 : KeyB v_5 kb (upd W n Z) bx := (by rw [← hw_5]; exact KeyB.set hK_0 hlt); have hB_5 : WBG kb k8 V v_5 := (by have h9 := hK9.word HKV.out.2.2; have h7 : upd W n Z k8 = V := (if_neg HKV.out.2.1).trans HKV.out.1; rw [h7] at h9; exact h9); have HN3 : Hid (NS w kb bx f (n + 1) v_5) := zh (by
         obtain ⟨_, q3, q4, q5⟩ := HNW.out
         have h6 : Below w.heap.size w W8 := q3.trans (hQ_0.below q4 q3.size)
         rw [← hw_5]
         refine ⟨?_, BoxIn.own hI_0 ((Own.refl _ _).set _ _) (by omega), h6.setCell (by simp; omega) _, q4, q5⟩
         rw [HE2.out]; exact KeyB.set hK_0 hlt); clear hK9 hw_5 hK_0 hI_0 hQ_0; skip)
       refine hK.out _ _ ?_ fun hHeld => ?_
       ·(try dsimp only)
        first | assumption
       clear hK K
       (try simp only [Act.put, zS])
       refine wpAnyH_done (by kernel_rfl) ?_ _
       clear hB_5
       go_wp2_with fail
       go_roundw
       case rel => exact ⟨n + 1, by omega, by omega, by go_num, HN3.out⟩
       case measure => simp [intOf]; omega
      ·have m4 : ¬ (n : Int) % 8 = 4 := by omega
       have HLN : Hid (lastN W n = P) := zh (by unfold lastN; rw [if_neg h8, if_neg h4, HP.out])
       go_wp2_with fail
       have hI_0 : BoxIn wr.drew bx := HNW.out.1
       have hQ_0 : Own bx wr wr.drew := (Own.refl bx wr).drew
       obtain ⟨k8, hk8⟩ := zX (n - 8)
       have r1 : IntKind.i64.wrap ((n : Int) - 8) = (k8 : Int) := by rw [IntWalk.i64_in _ (by omega)]; omega
       have k80 : (0 : Int) ≤ (k8 : Int) := by omega
       have k81 : (k8 : Int) < 60 := by omega
       have n00 : (0 : Int) ≤ (n : Int) := by omega
       have hnb : kb ≠ bx := by have := HNW.out.2.2.2; omega
       have hK_0 : KeyB wr.drew kb W bx := hQ_0.blk HK.out hnb
       obtain ⟨V, hV⟩ := zX (W k8)
       have hVl : V < 4294967296 := hV ▸ HL.out k8
       have hB_0 : WBG kb k8 V wr.drew := by have := hK_0.word (show k8 < 60 by omega); rw [hV] at this; exact this
       have hxz : bits .xor .u32 (V : Int) (P : Int) = ((V ^^^ P : Nat) : Int) := u32_xor_nat _ _ hVl HPL.out
       obtain ⟨Z, hZ⟩ := zX (V ^^^ P)
       rw [hZ] at hxz
       have HE2 : Hid (exK f (n + 1) = upd W n Z) := zh (by rw [HEX.out, hk8, hV, HLN.out, hZ])
       have HKV : Hid (W k8 = V ∧ k8 ≠ n ∧ k8 < 60) := zh ⟨hV, by omega, by omega⟩
       clear hk8 hV hVl hZ hnb
       refine wp_region_held_drew (S := (WBG kb k8 V)) (by kernel_rfl) ?_ (fun hHeld => ?_)
       ·(try dsimp only)
        first | assumption
       generalize wr.drew = W8 at *
       refine wT 0 ?_ rfl ?_ ?_
       rotate_left
       ·intro wS hSw
        (try dsimp only at hSw)
        go_simp
        (try with_reducible rfl)
       (try simp only [Act.put, zS])
       refine wT 1 ?_ rfl ?_ ?_
       rotate_left
       ·intro wS hSw
        (try dsimp only at hSw)
        go_simp
        (try with_reducible rfl)
       (try simp only [Act.put, zS])
       refine wT 2 ?_ rfl ?_ ?_
       rotate_left
       ·intro wS hSw
        (try dsimp only at hSw)
        go_simp
        (try with_reducible rfl)
       (try simp only [Act.put, zS])
       refine wT 3 ?_ rfl ?_ ?_
       rotate_left
       ·intro wS hSw
        (try dsimp only at hSw)
        go_simp
        (try with_reducible rfl)
       (try simp only [Act.put, zS])
       refine wT 4 ?_ rfl ?_ ?_
       rotate_left
       ·intro wS hSw
        (try dsimp only at hSw)
        go_simp
        (try with_reducible rfl)
       (try simp only [Act.put, zS])
       refine wT 5 ?_ rfl ?_ ?_
       rotate_left
       ·intro wS hSw
        (try dsimp only at hSw)
        go_simp
        (try with_reducible rfl)
       (try simp only [Act.put, zS])
       refine wT 6 ?_ rfl ?_ ?_
       rotate_left
       ·intro wS hSw
        (try dsimp only at hSw)
        go_simp
        (try with_reducible rfl)
       (try simp only [Act.put, zS])
       refine wT 7 ?_ rfl ?_ ?_
       rotate_left
       ·intro wS hSw
        (try dsimp only at hSw)
        go_simp
        (try with_reducible rfl)
       (try simp only [Act.put, zS])
       refine wT 8 ?_ rfl ?_ ?_
       rotate_left
       ·intro wS hSw
        (have c9 : _ = _ := hSw; go_simp; (try with_reducible rfl))
       (try simp only [Act.put, zS])
       refine wT 9 ?_ rfl ?_ ?_
       rotate_left
       ·intro wS hSw
        (try dsimp only at hSw)
        go_simp
        (try with_reducible rfl)
       (try simp only [Act.put, zS])
       refine wT 10 ?_ rfl ?_ ?_
       rotate_left
       ·intro wS hSw
        (try dsimp only at hSw)
        go_simp
        (try with_reducible rfl)
       (try simp only [Act.put, zS])
       refine wT 11 ?_ rfl ?_ ?_
       rotate_left
       ·intro wS hSw
        (try dsimp only at hSw)
        go_simp
        (try with_reducible rfl)
       (try simp only [Act.put, zS])
       refine wT 12 ?_ rfl ?_ ?_
       rotate_left
       ·intro wS hSw
        (try dsimp only at hSw)
        go_simp
        (try with_reducible rfl)
       (try simp only [Act.put, zS])
       refine wT 13 ?_ rfl ?_ ?_
       rotate_left
       ·intro wS hSw
        (try dsimp only at hSw)
        go_simp
        (try with_reducible rfl)
       (try simp only [Act.put, zS])
       refine wR [14] ?_
       refine aN rfl fun K hK => ?_
       (have c8 : W8.cell? ⟨kb, n, none⟩ = some (.int .u32 (W n : Nat)) := KeyB.word hK_0 hlt; have z8 : W8.frozen? ⟨kb, n, none⟩ = false := Blk.free hK_0 _; go_simp; clear c8 z8; obtain ⟨v_6, hw_6⟩ := zX (W8.setCell ⟨kb, n, none⟩ (.int .u32 (Z : Nat))); rw [hw_6]; have hK9 : KeyB v_6 kb (upd W n Z) bx := (by rw [← hw_6]; exact KeyB.set hK_0 hlt); have hB_6 : WBG kb k8 V v_6 := (by have h9 := hK9.word HKV.out.2.2; have h7 : upd W n Z k8 = V := (if_neg HKV.out.2.1).trans HKV.out.1; rw [h7] at h9; exact h9); have HN3 : Hid (NS w kb bx f (n + 1) v_6) := zh (by
         obtain ⟨_, q3, q4, q5⟩ := HNW.out
         have h6 : Below w.heap.size w W8 := q3.trans (hQ_0.below q4 q3.size)
         rw [← hw_6]
         refine ⟨?_, BoxIn.own hI_0 ((Own.refl _ _).set _ _) (by omega), h6.setCell (by simp; omega) _, q4, q5⟩
         rw [HE2.out]; exact KeyB.set hK_0 hlt); clear hK9 hw_6 hK_0 hI_0 hQ_0; skip)
       refine hK.out _ _ ?_ fun hHeld => ?_
       ·(try dsimp only)
        first | assumption
       clear hK K
       (try simp only [Act.put, zS])
       refine wpAnyH_done (by kernel_rfl) ?_ _
       clear hB_6
       go_wp2_with fail
       go_roundw
       case rel => exact ⟨n + 1, by omega, by omega, by go_num, HN3.out⟩
       case measure => simp [intOf]; omega
    ·obtain rfl : n = 60 := by omega
     go_wp2_with fail
     go_ret2
     exact ⟨kb, bx, rfl, HN.out⟩
end Go.Proofs.YtncfocjmdecapaaGreatDoor
