/- Requests held against the document's; what the law is sure of. -/
import Derived.Test.YtmabhjifldafaaaDoorRq5
import Derived.Test.YtmabhjifldafaaaDoorRq9
import Derived.Test.YtmabhjifldafaaaDoorLw32
namespace Go.Proofs.YtmabhjifldafaaaDoor
set_option linter.unusedVariables false
set_option linter.unusedSimpArgs false
open Go.RowKit

def HNV (w : World) : Prop := Handle w ∧ NV w
theorem HNV.later {w w' : World} (h : HNV w) (hb : Below w.heap.size w w') : HNV w' := ⟨h.1.later hb, h.2.later hb⟩
theorem Bytes.congr {w : World} {oa : Option Addr} {n : Nat} {f g : Nat → Nat} (h : Bytes w oa n f) (he : ∀ k, k < n → f k = g k) : Bytes w oa n g := fun k hk => by
  obtain ⟨h1, b, off, h2, h3⟩ := h k hk
  rw [he k hk] at h1 h3
  exact ⟨h1, b, off, h2, h3⟩
/-- A row that reads as a string has its bytes. -/
theorem CV.bytes {w : World} {o : Option Addr} {m : Nat} {S : ByteArray} (h : CV w o m S) : m = S.size ∧ Bytes w o m (byteF S) ∧ (o = Option.none → m = 0) := by
  obtain ⟨F, h1, h2, h3⟩ := h
  refine ⟨by rw [← h3, strF_size], h1.congr fun k hk => ?_, h2⟩
  rw [← h3, byteF_strF (fun i hi => (h1 i hi).1) k hk]
set_option maxRecDepth 100000 in
set_option maxHeartbeats 8000000 in
theorem isreq_any (ra rb : Value) (z : Int) (nt : Nat) (T : Nat → Nat) (S : ByteArray) (q : Nat) (L : Nat → Nat) (G : Nat → Nat → Nat) (w : World) (ha : QV w ra z nt T S q L G) (hb : QV w rb z nt T S q L G) :
    Calls Tryd.prog 31 #[ra, rb] w fun e w' => e = .returned (.bool true) ∧ Below w.heap.size w w' := by
  obtain ⟨ot, ct, oa, ca, rfl, a1, a2, a3, a4, a5, a6, a7, a8⟩ := ha
  obtain ⟨ot2, ct2, oa2, ca2, rfl, b1, b2, b3, b4, b5, b6, b7, b8⟩ := hb
  obtain ⟨wa, hwa⟩ : ∃ x, w.alloc (.cells #[.int .i64 z, .slice ot nt ct, .string S, .slice oa q ca] 44) = x := ⟨_, rfl⟩
  obtain ⟨wb, hwb⟩ : ∃ x, wa.alloc (.cells #[.int .i64 z, .slice ot2 nt ct2, .string S, .slice oa2 q ca2] 36) = x := ⟨_, rfl⟩
  have hba : Below w.heap.size w wa := by rw [← hwa]; exact (Below.refl _ _).alloc (Nat.le_refl _) _
  have hbb : Below wa.heap.size wa wb := by rw [← hwb]; exact (Below.refl _ _).alloc (Nat.le_refl _) _
  have hA := (RQ.new w (.int .i64 z) (.slice ot nt ct) (.string S) (.slice oa q ca) 44)
  rw [hwa] at hA
  have hA := hA.later hbb
  have hB := (RQ.new wa (.int .i64 z) (.slice ot2 nt ct2) (.string S) (.slice oa2 q ca2) 36)
  rw [hwb] at hB
  have c0 := hA.c0
  have c1 := hA.c1
  have c2 := hA.c2
  have c3 := hA.c3
  have d0 := hB.c0
  have d1 := hB.c1
  have d2 := hB.c2
  have d3 := hB.c3
  have HO : Hid (Below w.heap.size w wb) := Lib.hid (hba.trans (hbb.mono hba.size))
  have HC1 := Lib.hid (conv_any (cap := ct) (a1.later HO.out) a2)
  have HC2 := Lib.hid (conv_any (cap := ct2) (b1.later HO.out) b2)
  have HLI := Lib.hid (lists_any32 oa oa2 q ca ca2 L G wb (a5.later HO.out) (b5.later HO.out) (Nat.le_trans a7 a8))
  generalize strF nt T = ST at *
  clear a1 a2 a3 a4 a5 a6 a7 a8 b1 b2 b3 b4 b5 b6 b7 b8 hba hbb hA hB
  go_enter Tryd.func31, Tryd.ntmps31
  go_wp2_with (first
    | (refine wpList_valueG (by kernel_rfl) (exec_convO (x := .tmp 12) rfl rfl HC1.out) ?_)
    | (refine wpList_valueG (by kernel_rfl) (exec_convO (x := .tmp 15) rfl rfl HC2.out) ?_))
  refine HLI.out.mono ?_
  rintro e w1 ⟨rfl, hb1⟩
  have H1 := Lib.hid (HO.out.trans (hb1.mono HO.out.size))
  clear hb1
  go_wp2_with fail
  go_ret
  exact ⟨rfl, H1.out⟩
set_option maxRecDepth 100000 in
set_option maxHeartbeats 8000000 in
theorem isresp_any (ra rb : Value) (z : Int) (q : Nat) (L : Nat → Nat) (G : Nat → Nat → Nat) (w : World) (ha : PV w ra z q L G) (hb : PV w rb z q L G) :
    Calls Tryd.prog 32 #[ra, rb] w fun e w' => e = .returned (.bool true) ∧ Below w.heap.size w w' := by
  obtain ⟨oa, ca, rfl, a5, a6, a7, a8⟩ := ha
  obtain ⟨oa2, ca2, rfl, b5, b6, b7, b8⟩ := hb
  obtain ⟨wa, hwa⟩ : ∃ x, w.alloc (.cells #[.int .i64 z, .slice oa q ca] 52) = x := ⟨_, rfl⟩
  obtain ⟨wb, hwb⟩ : ∃ x, wa.alloc (.cells #[.int .i64 z, .slice oa2 q ca2] 38) = x := ⟨_, rfl⟩
  have hba : Below w.heap.size w wa := by rw [← hwa]; exact (Below.refl _ _).alloc (Nat.le_refl _) _
  have hbb : Below wa.heap.size wa wb := by rw [← hwb]; exact (Below.refl _ _).alloc (Nat.le_refl _) _
  have hA := (RP.new w (.int .i64 z) (.slice oa q ca) 52)
  rw [hwa] at hA
  have hA := hA.later hbb
  have hB := (RP.new wa (.int .i64 z) (.slice oa2 q ca2) 38)
  rw [hwb] at hB
  have c0 := hA.c0
  have c1 := hA.c1
  have d0 := hB.c0
  have d1 := hB.c1
  have HO : Hid (Below w.heap.size w wb) := Lib.hid (hba.trans (hbb.mono hba.size))
  have HLI := Lib.hid (lists_any32 oa oa2 q ca ca2 L G wb (a5.later HO.out) (b5.later HO.out) (Nat.le_trans a7 a8))
  clear a5 a6 a7 a8 b5 b6 b7 b8 hba hbb hA hB
  go_enter Tryd.func32, Tryd.ntmps32
  go_wp2_with fail
  refine HLI.out.mono ?_
  rintro e w1 ⟨rfl, hb1⟩
  have H1 := Lib.hid (HO.out.trans (hb1.mono HO.out.size))
  clear hb1
  go_wp2_with fail
  go_ret
  exact ⟨rfl, H1.out⟩
def k8 : ByteArray := ⟨#[3, 0, 1, 4, 0, 0, 0, 0]⟩
def a8 : ByteArray := ⟨#[2, 0, 2, 1, 2, 0, 1, 120]⟩
def nF : Nat → Nat := fun _ => 0
def nG : Nat → Nat → Nat := fun _ _ => 0
theorem s_q4 : rqS 4 0 nF ⟨#[]⟩ 0 nF nG = k8 := by kernel_rfl
theorem s_q4k : rqK 4 0 ⟨#[]⟩ 0 nF = 0 := by kernel_rfl
theorem s_q5k : rqK 5 0 ⟨#[]⟩ 0 nF = 4 := by kernel_rfl
theorem s_dz : qz 8 (byteF k8) = 4 ∧ dqE 8 (byteF k8) = 0 := ⟨by kernel_rfl, by kernel_rfl⟩
theorem s_p : rpS 258 1 (fun _ => 1) (fun _ _ => 120) = a8 := by kernel_rfl
theorem s_pk : rpK 258 1 (fun _ => 1) = 0 := by kernel_rfl
theorem fn_ah : FN ⟨#[97, 117, 100, 105, 116, 45, 104, 101, 97, 100]⟩ 29 := .inr ⟨by decide, by decide, rfl⟩
theorem nm5 : nmF 5 = ⟨#[112, 117, 116]⟩ := rfl
theorem conv120 (w : World) : (convert 33 33 (.slice (some ⟨w.heap.size, 0, none⟩) 1 1)).run Tryd.prog (w.alloc (.cells #[.int .u8 120] 5)) = .ok (.slice (some ⟨w.heap.size, 0, none⟩) 1 1) (w.alloc (.cells #[.int .u8 120] 5 (1, 2))) :=
  Joins.run_convert_bytes_const_at w 33 5 #[.int .u8 120] 1 1 w.heap.size rfl Tryd.underlying33 Tryd.underlying5
theorem row120 (w1 : World) (g : Nat) (hB : w1.cell? ⟨g, 0, none⟩ = some (.int .u8 120)) : LBs (w1.alloc (.cells #[.slice (some ⟨g, 0, none⟩) 1 1] 33)) (some ⟨w1.heap.size, 0, none⟩) 1 (fun _ => 1) (fun _ _ => 120) := fun i hi => by
  have hal : Below w1.heap.size w1 (w1.alloc (.cells #[.slice (some ⟨g, 0, none⟩) 1 1] 33)) := (Below.refl _ _).alloc (Nat.le_refl _) _
  obtain rfl : i = 0 := by omega
  refine ⟨w1.heap.size, 0, some ⟨g, 0, none⟩, 1, rfl, World.cell?_alloc_mark w1 #[.slice (some ⟨g, 0, none⟩) 1 1] 33 (0, 0) 0, by decide, fun k hk => ⟨by show 120 < 256; omega, g, 0, rfl, ?_⟩, (fun e => by cases e), by unfold maxLen; omega⟩
  have hk0 : k = 0 := by have h : k < 1 := hk; omega
  subst hk0
  exact cell_below hal hB
set_option maxRecDepth 100000 in
set_option maxHeartbeats 8000000 in
theorem req_sure (w : World) (hg : HNV w) : Calls Tryd.prog 20 #[] w fun e w' => e = .returned (.bool true) ∧ Below w.heap.size w w' := by
  have HG := Lib.hid hg
  clear hg
  go_enter Tryd.func20, Tryd.ntmps20
  go_wp2_with fail
  refine (rq_enc 4 none none 0 0 0 0 ⟨#[]⟩ nF nF nG w (by omega) (by omega) (fun k hk => absurd hk (Nat.not_lt_zero _)) (Nat.le_refl _) (Nat.zero_le _) (fun _ => rfl) (LBs.zero _ _ _ _) (Nat.le_refl _) (Nat.zero_le _) (fun _ => rfl) (fun i hi => absurd hi (Nat.not_lt_zero _)) (Nat.zero_le _)).mono ?_
  rintro e w1 ⟨o1, m1, c1, v1, rfl, hv1, hmc1, hcm1, hr1, hb1⟩
  rw [s_q4] at hv1
  rw [s_q4k] at hr1
  obtain rfl : v1 = .nilIface := hr1.nil rfl
  obtain ⟨hm8, hB1, _⟩ := hv1.bytes
  obtain rfl : m1 = 8 := hm8
  have H1 : Hid (CV w1 o1 8 k8 ∧ Below w.heap.size w w1) := Lib.hid ⟨hv1, hb1⟩
  have HD := Lib.hid (dec_q o1 8 c1 (byteF k8) w1 hB1 hmc1 hcm1)
  clear hB1 hv1 hb1 hr1 hmc1 hcm1
  go_wp2_with fail
  refine HD.out.mono ?_
  clear HD
  rintro e w2 ⟨r2, v2, rfl, ⟨ot, ct, oa, ca, rfl, _⟩, hr2, hb2⟩
  rw [s_dz.2] at hr2
  obtain rfl : v2 = .nilIface := hr2.nil rfl
  have H2 : Hid (CV w2 o1 8 k8 ∧ Below w.heap.size w w2) := Lib.hid ⟨H1.out.1.later hb2, H1.out.2.trans (hb2.mono H1.out.2.size)⟩
  rw [s_dz.1]
  generalize qn 8 (byteF k8) = nq at *
  generalize qS 8 (byteF k8) = Sq at *
  generalize qq 8 (byteF k8) = qq9 at *
  clear hr2 hb2 H1
  obtain ⟨w3, hw3⟩ : ∃ x, w2.alloc (.cells #[.int .i64 4, .slice ot nq ct, .string Sq, .slice oa qq9 ca] 44) = x := ⟨_, rfl⟩
  have hb3 : Below w2.heap.size w2 w3 := by rw [← hw3]; exact (Below.refl _ _).alloc (Nat.le_refl _) _
  have H3 : Hid (CV w3 o1 8 k8 ∧ w3.cell? ⟨w2.heap.size, 0, none⟩ = some (.int .i64 4) ∧ Below w.heap.size w w3) := Lib.hid ⟨H2.out.1.later hb3, by rw [← hw3]; exact World.cell?_alloc_mark w2 #[.int .i64 4, .slice ot nq ct, .string Sq, .slice oa qq9 ca] 44 (0, 0) 0, H2.out.2.trans (hb3.mono H2.out.2.size)⟩
  have hcv := conv120 w3
  obtain ⟨w4, hw4⟩ : ∃ x, w3.alloc (.cells #[.int .u8 120] 5 (1, 2)) = x := ⟨_, rfl⟩
  have hb4 : Below w3.heap.size w3 w4 := by rw [← hw4]; exact (Below.refl _ _).alloc (Nat.le_refl _) _
  have H4 : Hid (CV w4 o1 8 k8 ∧ w4.cell? ⟨w2.heap.size, 0, none⟩ = some (.int .i64 4) ∧ Below w.heap.size w w4 ∧ w4.cell? ⟨w3.heap.size, 0, none⟩ = some (.int .u8 120)) := Lib.hid ⟨H3.out.1.later hb4, cell_below hb4 H3.out.2.1, H3.out.2.2.trans (hb4.mono H3.out.2.2.size), by rw [← hw4]; exact World.cell?_alloc_mark w3 #[.int .u8 120] 5 (1, 2) 0⟩
  obtain ⟨w5, hw5⟩ : ∃ x, w4.alloc (.cells #[.slice (some ⟨w3.heap.size, 0, none⟩) 1 1] 33) = x := ⟨_, rfl⟩
  have hb5 : Below w4.heap.size w4 w5 := by rw [← hw5]; exact (Below.refl _ _).alloc (Nat.le_refl _) _
  have hr5 := row120 w4 w3.heap.size H4.out.2.2.2
  rw [hw5] at hr5
  have H5 : Hid (CV w5 o1 8 k8 ∧ w5.cell? ⟨w2.heap.size, 0, none⟩ = some (.int .i64 4) ∧ Below w.heap.size w w5 ∧ LBs w5 (some ⟨w4.heap.size, 0, none⟩) 1 (fun _ => 1) (fun _ _ => 120)) := Lib.hid ⟨H4.out.1.later hb5, cell_below hb5 H4.out.2.1, H4.out.2.2.1.trans (hb5.mono H4.out.2.2.1.size), hr5⟩
  rw [hw4] at hcv
  clear hb3 hb4 hb5 hr5 H2 H3 H4
  go_wp2_with fail
  refine (rp_ans 258 (some ⟨w4.heap.size, 0, none⟩) 1 1 (fun _ => 1) (fun _ _ => 120) w5 (by omega) (by omega) H5.out.2.2.2 (Nat.le_refl _) (by unfold maxLen; omega) (fun e => by cases e) (by omega) (fun i _ => by show 1 ≤ 100000; omega)).mono ?_
  rintro e w6 ⟨o6, m6, c6, v6, rfl, hv6, _, _, hr6, hb6⟩
  rw [s_p] at hv6
  rw [s_pk] at hr6
  obtain rfl : v6 = .nilIface := hr6.nil rfl
  have H6 : Hid (CV w6 o1 8 k8 ∧ w6.cell? ⟨w2.heap.size, 0, none⟩ = some (.int .i64 4) ∧ Below w.heap.size w w6 ∧ CV w6 o6 m6 a8) := Lib.hid ⟨H5.out.1.later hb6, cell_below hb6 H5.out.2.1, H5.out.2.2.1.trans (hb6.mono H5.out.2.2.1.size), hv6⟩
  clear hb6 hv6 hr6 H5 hw3 hw4 hw5 hcv
  go_wp2_with fail
  refine (rq_enc 5 none none 0 0 0 0 ⟨#[]⟩ nF nF nG w6 (by omega) (by omega) (fun k hk => absurd hk (Nat.not_lt_zero _)) (Nat.le_refl _) (Nat.zero_le _) (fun _ => rfl) (LBs.zero _ _ _ _) (Nat.le_refl _) (Nat.zero_le _) (fun _ => rfl) (fun i hi => absurd hi (Nat.not_lt_zero _)) (Nat.zero_le _)).mono ?_
  rintro e w7 ⟨o7, m7, c7, v7, rfl, _, _, _, hr7, hb7⟩
  rw [s_q5k] at hr7
  obtain rfl := hr7.some (by decide)
  have H7 : Hid (CV w7 o1 8 k8 ∧ w7.cell? ⟨w2.heap.size, 0, none⟩ = some (.int .i64 4) ∧ Below w.heap.size w w7 ∧ CV w7 o6 m6 a8) := Lib.hid ⟨H6.out.1.later hb7, cell_below hb7 H6.out.2.1, H6.out.2.2.1.trans (hb7.mono H6.out.2.2.1.size), H6.out.2.2.2.later hb7⟩
  have d0 := H7.out.2.1
  clear hb7 hr7 H6
  have hk8 : (⟨#[3, 0, 1, 4, 0, 0, 0, 0]⟩ : ByteArray) = k8 := rfl
  have ha8 : (⟨#[2, 0, 2, 1, 2, 0, 1, 120]⟩ : ByteArray) = a8 := rfl
  go_wp2_with (first
    | (refine wpList_valueG (by kernel_rfl) (exec_convO (x := .tmp 43) rfl rfl H7.out.1.conv) ?_; rw [← hk8])
    | (refine wpList_valueG (by kernel_rfl) (exec_convO (x := .tmp 53) rfl rfl H7.out.2.2.2.conv) ?_; rw [← ha8]))
  refine (num_err32 4 w7 (HG.out.later H7.out.2.2.1).1).mono ?_
  rintro e w8 ⟨rfl, hb8⟩
  have H8 : Hid (Below w.heap.size w w8) := Lib.hid (H7.out.2.2.1.trans (hb8.mono H7.out.2.2.1.size))
  clear hb8 H7 d0 hk8 ha8
  go_wp2_with fail
  refine (name_any 5 w8 (by decide) (by decide) (HG.out.later H8.out).2).mono ?_
  rintro e w9 ⟨rfl, rfl⟩
  rw [nm5]
  go_wp2_with fail
  refine (find_any _ 29 w8 fn_ah (HG.out.later H8.out).2).mono ?_
  rintro e w9 ⟨rfl, rfl⟩
  go_wp2_with fail
  go_ret
  exact ⟨rfl, H8.out⟩
end Go.Proofs.YtmabhjifldafaaaDoor
