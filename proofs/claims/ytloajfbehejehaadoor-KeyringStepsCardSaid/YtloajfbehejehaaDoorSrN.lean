/- The numbers of a round. -/
import Derived.Test.YtloajfbehejehaaDoorSr1
import Derived.Test.YtloajfbehejehaaDoorSh4
namespace Go.Proofs.YtloajfbehejehaaDoor
set_option linter.unusedVariables false
set_option linter.unusedSimpArgs false
open Go.RowKit

theorem sub_cast {a x : Nat} (h : x ≤ a) : (a : Int) - (x : Int) = ((a - x : Nat) : Int) := (Int.ofNat_sub h).symm
theorem wrap_lt {y : Nat} (h : y < 4294967296) : IntKind.u32.wrap (y : Int) = (y : Int) := by rw [IntKind.wrap_u32]; omega
theorem wrap_not {x : Nat} (h : x < 4294967296) : IntKind.u32.wrap (4294967295 - (x : Int)) = ((4294967295 - x : Nat) : Int) := by
  rw [show (4294967295 : Int) = ((4294967295 : Nat) : Int) from rfl, sub_cast (Nat.le_of_lt_succ h)]
  exact wrap_lt (Nat.lt_of_le_of_lt (Nat.sub_le _ _) (by decide))
theorem rdS_0 (v : Nat → Nat) (k w : Nat) : rdS v k w 0 = (t1N v k w + t2N v) % 4294967296 := by unfold rdS; rw [if_pos rfl]
theorem rdS_4 (v : Nat → Nat) (k w : Nat) : rdS v k w 4 = (v 3 + t1N v k w) % 4294967296 := by unfold rdS; rw [if_neg (by decide), if_pos rfl]
theorem rdS_j (v : Nat → Nat) (k w : Nat) {j : Nat} (h0 : ¬ j = 0) (h4 : ¬ j = 4) : rdS v k w j = v (j - 1) := by unfold rdS; rw [if_neg h0, if_neg h4]
theorem rnd_nums (V : Nat → Nat) (kt wt x0 x1 x2 x3 x4 x5 x6 x7 : Nat) (l0 : x0 < 4294967296) (l1 : x1 < 4294967296) (l2 : x2 < 4294967296) (l3 : x3 < 4294967296) (l4 : x4 < 4294967296) (l5 : x5 < 4294967296) (l6 : x6 < 4294967296) (l7 : x7 < 4294967296) (lk : kt < 4294967296) (lw : wt < 4294967296) (h0 : V 0 = x0) (h1 : V 1 = x1) (h2 : V 2 = x2) (h3 : V 3 = x3) (h4 : V 4 = x4) (h5 : V 5 = x5) (h6 : V 6 = x6) (h7 : V 7 = x7) :
    ∃ o1 o2 o3 o4 o5 o6 o7 o8 o9 oa ob oc od oe nx B1 B0 ch mj v1 v2 v3 T1 T2 U4 U0 : Nat, (rorN 6 x4 = o3 ∧ rorN 11 x4 = o4 ∧ rorN 25 x4 = o5 ∧ rorN 2 x0 = o6 ∧ rorN 13 x0 = o7 ∧ rorN 22 x0 = o8) ∧
      (bits .xor .u32 (o3 : Int) (o4 : Int) = (o1 : Int) ∧ bits .xor .u32 (o1 : Int) (o5 : Int) = (B1 : Int) ∧ bits .and .u32 (x4 : Int) (x5 : Int) = (oa : Int) ∧ bits .and .u32 (nx : Int) (x6 : Int) = (ob : Int) ∧ bits .xor .u32 (oa : Int) (ob : Int) = (ch : Int) ∧ IntKind.u32.wrap (4294967295 - (x4 : Int)) = (nx : Int) ∧ IntKind.u32.wrap ((x7 : Int) + (B1 : Int)) = (v1 : Int) ∧ IntKind.u32.wrap ((v1 : Int) + (ch : Int)) = (v2 : Int) ∧ IntKind.u32.wrap ((v2 : Int) + (kt : Int)) = (v3 : Int) ∧ IntKind.u32.wrap ((v3 : Int) + (wt : Int)) = (T1 : Int)) ∧
      (bits .xor .u32 (o6 : Int) (o7 : Int) = (o2 : Int) ∧ bits .xor .u32 (o2 : Int) (o8 : Int) = (B0 : Int) ∧ bits .and .u32 (x0 : Int) (x1 : Int) = (oc : Int) ∧ bits .and .u32 (x0 : Int) (x2 : Int) = (od : Int) ∧ bits .and .u32 (x1 : Int) (x2 : Int) = (oe : Int) ∧ bits .xor .u32 (oc : Int) (od : Int) = (o9 : Int) ∧ bits .xor .u32 (o9 : Int) (oe : Int) = (mj : Int) ∧ IntKind.u32.wrap ((B0 : Int) + (mj : Int)) = (T2 : Int) ∧ IntKind.u32.wrap ((x3 : Int) + (T1 : Int)) = (U4 : Int) ∧ IntKind.u32.wrap ((T1 : Int) + (T2 : Int)) = (U0 : Int)) ∧
      (rdS V kt wt 0 = U0 ∧ rdS V kt wt 1 = x0 ∧ rdS V kt wt 2 = x1 ∧ rdS V kt wt 3 = x2 ∧ rdS V kt wt 4 = U4 ∧ rdS V kt wt 5 = x4 ∧ rdS V kt wt 6 = x5 ∧ rdS V kt wt 7 = x6) := by
  have ht1 : t1N V kt wt = (x7 + bg1 x4 + chN x4 x5 x6 + kt + wt) % 4294967296 := by unfold t1N; rw [h7, h4, h5, h6]
  have ht2 : t2N V = (bg0 x0 + mjN x0 x1 x2) % 4294967296 := by unfold t2N; rw [h0, h1, h2]
  have f1 : bits .xor .u32 (rorN 6 x4 : Nat) (rorN 11 x4 : Nat) = ((rorN 6 x4 ^^^ rorN 11 x4 : Nat) : Int) := u32_xor_nat _ _ (rorN_lt l4) (rorN_lt l4)
  have f2 : bits .xor .u32 ((rorN 6 x4 ^^^ rorN 11 x4 : Nat) : Int) (rorN 25 x4 : Nat) = ((bg1 x4 : Nat) : Int) := u32_xor_nat _ _ (xor32 (rorN_lt l4) (rorN_lt l4)) (rorN_lt l4)
  have g1 : bits .xor .u32 (rorN 2 x0 : Nat) (rorN 13 x0 : Nat) = ((rorN 2 x0 ^^^ rorN 13 x0 : Nat) : Int) := u32_xor_nat _ _ (rorN_lt l0) (rorN_lt l0)
  have g2 : bits .xor .u32 ((rorN 2 x0 ^^^ rorN 13 x0 : Nat) : Int) (rorN 22 x0 : Nat) = ((bg0 x0 : Nat) : Int) := u32_xor_nat _ _ (xor32 (rorN_lt l0) (rorN_lt l0)) (rorN_lt l0)
  have n1 : bits .and .u32 (x4 : Int) (x5 : Int) = ((x4 &&& x5 : Nat) : Int) := u32_and_nat _ _ l4 l5
  have n2 : bits .and .u32 ((4294967295 - x4 : Nat) : Int) (x6 : Int) = (((4294967295 - x4) &&& x6 : Nat) : Int) := u32_and_nat _ _ (by omega) l6
  have n3 : bits .xor .u32 ((x4 &&& x5 : Nat) : Int) (((4294967295 - x4) &&& x6 : Nat) : Int) = ((chN x4 x5 x6 : Nat) : Int) := u32_xor_nat _ _ (and32 (b := x5) l4) (and32 (b := x6) (by omega))
  have n4 : IntKind.u32.wrap (4294967295 - (x4 : Int)) = ((4294967295 - x4 : Nat) : Int) := wrap_not l4
  have p1 : bits .and .u32 (x0 : Int) (x1 : Int) = ((x0 &&& x1 : Nat) : Int) := u32_and_nat _ _ l0 l1
  have p2 : bits .and .u32 (x0 : Int) (x2 : Int) = ((x0 &&& x2 : Nat) : Int) := u32_and_nat _ _ l0 l2
  have p3 : bits .and .u32 (x1 : Int) (x2 : Int) = ((x1 &&& x2 : Nat) : Int) := u32_and_nat _ _ l1 l2
  have p4 : bits .xor .u32 ((x0 &&& x1 : Nat) : Int) ((x0 &&& x2 : Nat) : Int) = (((x0 &&& x1) ^^^ (x0 &&& x2) : Nat) : Int) := u32_xor_nat _ _ (and32 (b := x1) l0) (and32 (b := x2) l0)
  have p5 : bits .xor .u32 (((x0 &&& x1) ^^^ (x0 &&& x2) : Nat) : Int) ((x1 &&& x2 : Nat) : Int) = ((mjN x0 x1 x2 : Nat) : Int) := u32_xor_nat _ _ (xor32 (and32 (b := x1) l0) (and32 (b := x2) l0)) (and32 (b := x2) l1)
  generalize rorN 6 x4 ^^^ rorN 11 x4 = o1 at *
  generalize rorN 2 x0 ^^^ rorN 13 x0 = o2 at *
  generalize rorN 6 x4 = o3 at *
  generalize rorN 11 x4 = o4 at *
  generalize rorN 25 x4 = o5 at *
  generalize rorN 2 x0 = o6 at *
  generalize rorN 13 x0 = o7 at *
  generalize rorN 22 x0 = o8 at *
  generalize bg1 x4 = B1 at *
  generalize bg0 x0 = B0 at *
  generalize chN x4 x5 x6 = ch at *
  generalize mjN x0 x1 x2 = mj at *
  generalize (x0 &&& x1) ^^^ (x0 &&& x2) = o9 at *
  generalize x4 &&& x5 = oa at *
  generalize (4294967295 - x4) &&& x6 = ob at *
  generalize x0 &&& x1 = oc at *
  generalize x0 &&& x2 = od at *
  generalize x1 &&& x2 = oe at *
  generalize 4294967295 - x4 = nx at *
  obtain ⟨v1, hv1⟩ : ∃ v, (x7 + B1) % 4294967296 = v := ⟨_, rfl⟩
  obtain ⟨v2, hv2⟩ : ∃ v, (v1 + ch) % 4294967296 = v := ⟨_, rfl⟩
  obtain ⟨v3, hv3⟩ : ∃ v, (v2 + kt) % 4294967296 = v := ⟨_, rfl⟩
  obtain ⟨T1, hT1⟩ : ∃ v, t1N V kt wt = v := ⟨_, rfl⟩
  obtain ⟨T2, hT2⟩ : ∃ v, t2N V = v := ⟨_, rfl⟩
  obtain ⟨U4, hU4⟩ : ∃ v, (x3 + T1) % 4294967296 = v := ⟨_, rfl⟩
  obtain ⟨U0, hU0⟩ : ∃ v, (T1 + T2) % 4294967296 = v := ⟨_, rfl⟩
  rw [hT1] at ht1
  rw [hT2] at ht2
  have s1 := u32m (x7 : Int) (B1 : Int) rfl rfl hv1
  have s2 := u32m (v1 : Int) (ch : Int) rfl rfl hv2
  have s3 := u32m (v2 : Int) (kt : Int) rfl rfl hv3
  have s4 := u32m (v3 : Int) (wt : Int) (e := T1) rfl rfl (by omega)
  have s5 := u32m (B0 : Int) (mj : Int) rfl rfl ht2.symm
  have s6 := u32m (x3 : Int) (T1 : Int) rfl rfl hU4
  have s7 := u32m (T1 : Int) (T2 : Int) rfl rfl hU0
  refine ⟨o1, o2, o3, o4, o5, o6, o7, o8, o9, oa, ob, oc, od, oe, nx, B1, B0, ch, mj, v1, v2, v3, T1, T2, U4, U0, ⟨rfl, rfl, rfl, rfl, rfl, rfl⟩, ⟨f1, f2, n1, n2, n3, n4, s1, s2, s3, s4⟩, ⟨g1, g2, p1, p2, p3, p4, p5, s5, s6, s7⟩, ?_, ?_, ?_, ?_, ?_, ?_, ?_, ?_⟩
  · rw [rdS_0, hT1, hT2, hU0]
  · rw [rdS_j V kt wt (by decide) (by decide)]; exact h0
  · rw [rdS_j V kt wt (by decide) (by decide)]; exact h1
  · rw [rdS_j V kt wt (by decide) (by decide)]; exact h2
  · rw [rdS_4, hT1, h3, hU4]
  · rw [rdS_j V kt wt (by decide) (by decide)]; exact h4
  · rw [rdS_j V kt wt (by decide) (by decide)]; exact h5
  · rw [rdS_j V kt wt (by decide) (by decide)]; exact h6
end Go.Proofs.YtloajfbehejehaaDoor
