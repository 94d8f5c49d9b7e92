/- Requests as bytes. -/
import Derived.Test.YtmabhjifldafaaaDoorRq3
import Derived.Test.YtmabhjifldafaaaDoorRq4
namespace Go.Proofs.YtmabhjifldafaaaDoor
set_option linter.unusedVariables false
set_option linter.unusedSimpArgs false
open Go.RowKit

def rqL (nt : Nat) (S : ByteArray) (L : Nat → Nat) : Nat → Nat := catL 3 (fun i => if i = 0 then 1 else if i = 1 then nt else S.size) L
def rqG (k : Nat) (T : Nat → Nat) (S : ByteArray) (G : Nat → Nat → Nat) : Nat → Nat → Nat := catG 3 (fun i => if i = 0 then fun _ => k else if i = 1 then T else byteF S) G
def rqS (z : Int) (nt : Nat) (T : Nat → Nat) (S : ByteArray) (q : Nat) (L : Nat → Nat) (G : Nat → Nat → Nat) : ByteArray := if MB z nt S q then encS (3 + q) (rqL nt S L) (rqG z.toNat T S G) else ⟨#[]⟩
def rqK (z : Int) (nt : Nat) (S : ByteArray) (q : Nat) (L : Nat → Nat) : Nat := if MB z nt S q then encK (3 + q) (rqL nt S L) else 4
set_option maxRecDepth 100000 in
set_option maxHeartbeats 8000000 in
theorem rq_enc (z : Int) (ot oa : Option Addr) (nt ct q ca : Nat) (S : ByteArray) (T : Nat → Nat) (L : Nat → Nat) (G : Nat → Nat → Nat) (w : World) (h1 : -9223372036854775808 ≤ z) (h2 : z ≤ 9223372036854775807)
    (hT : Bytes w ot nt T) (hnt : nt ≤ ct) (hct : ct ≤ maxLen) (hno : ot = none → nt = 0) (hL : LBs w oa q L G) (hq : q ≤ ca) (hca : ca ≤ maxLen) (hqo : oa = none → q = 0) (hl : ∀ i, i < q → L i ≤ 100000) (hS : S.size ≤ maxLen) :
    Calls Tryd.prog 22 #[.agg #[.int .i64 z, .slice ot nt ct, .string S, .slice oa q ca]] w fun e w' => ∃ o m c v, e = .returned (.tuple #[.slice o m c, v]) ∧ CV w' o m (rqS z nt T S q L G) ∧ m ≤ c ∧ c ≤ maxLen ∧ Er v (rqK z nt S q L) ∧ Below w.heap.size w w' := by
  obtain ⟨wa, hwa⟩ : ∃ x, w.alloc (.cells #[.int .i64 z, .slice ot nt ct, .string S, .slice oa q ca] 44) = x := ⟨_, rfl⟩
  have hR : RQ w (.int .i64 z) (.slice ot nt ct) (.string S) (.slice oa q ca) wa := by rw [← hwa]; exact RQ.new _ _ _ _ _ _
  have HR := Lib.hid hR
  have HM := Lib.hid (may_any z ot oa nt ct q ca S wa h1 h2 (Nat.le_trans hnt hct) (Nat.le_trans hq hca) hS)
  have HT : Hid (∀ w', Below w.heap.size w w' → Bytes w' ot nt T) := Lib.hid fun w' h => hT.later h
  have HA : Hid (∀ w', Below w.heap.size w w' → LBx w' w.heap.size oa q L G) := Lib.hid fun w' h => hL.x.later h
  have HN : Hid (nt ≤ ct ∧ ct ≤ maxLen ∧ (ot = none → nt = 0) ∧ (oa = none → q = 0) ∧ (∀ i, i < q → L i ≤ 100000) ∧ S.size ≤ maxLen) := Lib.hid ⟨hnt, hct, hno, hqo, hl, hS⟩
  have c0 := hR.c0
  have c1 := hR.c1
  have c2 := hR.c2
  have c3 := hR.c3
  clear hR hT hL hnt hct hno hqo hl hq hca hS
  unfold rqS rqK
  by_cases hm : MB z nt S q
  · simp only [if_pos hm]
    obtain ⟨k, rfl⟩ : ∃ k : Nat, z = (k : Int) := ⟨z.toNat, by have := hm.1; omega⟩
    rw [show (k : Int).toNat = k from by omega]
    have hd : decide (MB k nt S q) = true := decide_eq_true hm
    have HB : Hid (1 ≤ k ∧ k < 30 ∧ nt ≤ 32 ∧ S.size ≤ 64 ∧ q ≤ 3) := Lib.hid ⟨by have := hm.1; omega, by have := hm.2.1; omega, hm.2.2.2.2.1, hm.2.2.2.1, by rw [hm.2.2.1]; exact ar_le _⟩
    rw [hd] at HM
    clear hm hd
    go_enter Tryd.func22, Tryd.ntmps22
    go_wp2_with fail
    refine HM.out.mono ?_
    clear HM
    rintro e w1 ⟨rfl, hb1⟩
    have hR1 := HR.out.later hb1
    have H1 := Lib.hid hR1
    obtain ⟨w2, hw2⟩ : ∃ x, w1.alloc (.cells #[.int .u8 (k : Int)] 5) = x := ⟨_, rfl⟩
    have hal : Below w1.heap.size w1 w2 := by rw [← hw2]; exact (Below.refl _ _).alloc (Nat.le_refl _) _
    have H2 : Hid (RQ w (.int .i64 k) (.slice ot nt ct) (.string S) (.slice oa q ca) w2) := Lib.hid (hR1.later hal)
    have HB1 : Hid (Bytes w2 (some ⟨w1.heap.size, 0, none⟩) 1 (fun _ => k)) := Lib.hid (by rw [← hw2]; exact one_byte (by have := HB.out; omega))
    have d0 := hR1.c0
    have e1 := H2.out.c1
    have e2 := H2.out.c2
    have k1 : IntKind.u8.wrap (k : Int) = (k : Int) := IntWalk.u8_in _ (by have := HB.out; omega)
    clear hR1 hb1 hal HR c0 c1 c2 c3 hwa
    go_wp2_with (first
      | ((try rw [hw2])
         refine wpList_convS rfl (.tmp 16) rfl S w2 rfl HN.out.2.2.2.2.2 ?_
         intro cap w3 hcap hsb3 hb3
         have H3 : Hid (RQ w (.int .i64 k) (.slice ot nt ct) (.string S) (.slice oa q ca) w3) := Lib.hid (H2.out.later hb3)
         have HB3 : Hid (Bytes w3 (some ⟨w1.heap.size, 0, none⟩) 1 (fun _ => k) ∧ Bytes w3 ot nt T ∧ Bytes w3 (some ⟨w2.heap.size, 0, none⟩) S.size (byteF S) ∧ S.size ≤ cap ∧ cap ≤ maxLen) := Lib.hid ⟨HB1.out.later hb3, HT.out _ H3.out.o, hsb3.bytes, hsb3.le, hcap⟩
         obtain ⟨w4, hw4⟩ : ∃ x, w3.alloc (.cells #[.slice (some ⟨w1.heap.size, 0, none⟩) 1 1, .slice ot nt ct, .slice (some ⟨w2.heap.size, 0, none⟩) S.size cap] 33) = x := ⟨_, rfl⟩
         have HL4 : Hid (RL w4 w.heap.size (.slice (some ⟨w3.heap.size, 0, none⟩) 3 3) 3 (fun i => if i = 0 then 1 else if i = 1 then nt else S.size) (fun i => if i = 0 then fun _ => k else if i = 1 then T else byteF S)) := Lib.hid (by
           rw [← hw4]
           refine RL.made (w := w3) [.slice (some ⟨w1.heap.size, 0, none⟩) 1 1, .slice ot nt ct, .slice (some ⟨w2.heap.size, 0, none⟩) S.size cap] rfl (by unfold maxLen; omega) H3.out.o.size fun i hi => ?_
           rcases (by omega : i = 0 ∨ i = 1 ∨ i = 2) with rfl | rfl | rfl
           · exact ⟨_, 1, rfl, Nat.le_refl _, by unfold maxLen; omega, HB3.out.1, fun e => (by cases e)⟩
           · exact ⟨_, ct, rfl, HN.out.1, HN.out.2.1, HB3.out.2.1, HN.out.2.2.1⟩
           · exact ⟨_, cap, rfl, HB3.out.2.2.2.1, HB3.out.2.2.2.2, HB3.out.2.2.1, fun e => (by cases e)⟩)
         have hal4 : Below w3.heap.size w3 w4 := by rw [← hw4]; exact (Below.refl _ _).alloc (Nat.le_refl _) _
         have H4 : Hid (RQ w (.int .i64 k) (.slice ot nt ct) (.string S) (.slice oa q ca) w4) := Lib.hid (H3.out.later hal4)
         have f3 := H4.out.c3
         clear hal4 hsb3 hb3 hcap)
      | ((try rw [hw4])
         refine wpList_appRs rfl (.tmp 19) (.tmp 21) rfl w.heap.size _ 3 q ca _ L _ G oa w4 rfl HL4.out rfl (HA.out _ H4.out.o) HN.out.2.2.2.1 (by have := HB.out; omega) H4.out.o.size ?_
         intro v5 w5 hR5 hb5
         have H5 : Hid (RL w5 w.heap.size v5 (3 + q) (rqL nt S L) (rqG k T S G) ∧ Below w.heap.size w w5) := Lib.hid ⟨hR5, H4.out.o.trans hb5⟩
         clear hR5 hb5))
    obtain ⟨o5, c5, rfl, hc5, hm5, hL5, _⟩ := H5.out.1.lbs
    refine (enc_sk o5 (3 + q) c5 _ _ (Nat.le_trans hc5 hm5) (fun i hi => ?_) w5 hL5).mono ?_
    · unfold rqL catL
      have h9 := HB.out
      by_cases e : i < 3
      · rw [if_pos e]
        show (if i = 0 then 1 else if i = 1 then nt else S.size) ≤ 100000
        by_cases e2 : i = 0
        · rw [if_pos e2]; omega
        · rw [if_neg e2]
          by_cases e3 : i = 1
          · rw [if_pos e3]; omega
          · rw [if_neg e3]; omega
      · rw [if_neg e]; exact HN.out.2.2.2.2.1 _ (by omega)
    rintro e w6 ⟨o6, m6, c6, v6, rfl, hv6, hm6, hc6, hr6, hb6⟩
    have H6 : Hid (CV w6 o6 m6 (encS (3 + q) (rqL nt S L) (rqG k T S G)) ∧ Below w.heap.size w w6) := Lib.hid ⟨hv6, H5.out.2.trans (hb6.mono H5.out.2.size)⟩
    clear hv6 hb6 hL5 hc5 hm5
    go_wp2_with fail
    go_ret2
    exact ⟨o6, m6, c6, v6, rfl, H6.out.1, hm6, hc6, hr6, H6.out.2⟩
  · simp only [if_neg hm]
    have hd : decide (MB z nt S q) = false := decide_eq_false hm
    rw [hd] at HM
    clear hm hd
    go_enter Tryd.func22, Tryd.ntmps22
    go_wp2_with fail
    refine HM.out.mono ?_
    clear HM
    rintro e w1 ⟨rfl, hb1⟩
    have H1 := Lib.hid (HR.out.later hb1).o
    clear hb1 HR hwa c0 c1 c2 c3
    go_wp2_with fail
    go_ret2
    exact ⟨none, 0, 0, _, rfl, CV.none _, Nat.le_refl _, by unfold maxLen; omega, .inr ⟨rfl, by decide⟩, H1.out⟩
set_option maxRecDepth 100000 in
set_option maxHeartbeats 8000000 in
theorem rrq_enc (z : Int) (ot oa : Option Addr) (nt ct q ca : Nat) (S : ByteArray) (T : Nat → Nat) (L : Nat → Nat) (G : Nat → Nat → Nat) (w : World) (h1 : -9223372036854775808 ≤ z) (h2 : z ≤ 9223372036854775807)
    (hT : Bytes w ot nt T) (hnt : nt ≤ ct) (hct : ct ≤ maxLen) (hno : ot = none → nt = 0) (hL : LBs w oa q L G) (hq : q ≤ ca) (hca : ca ≤ maxLen) (hqo : oa = none → q = 0) (hl : ∀ i, i < q → L i ≤ 100000) (hS : S.size ≤ maxLen) :
    Calls Tryd.prog 23 #[.agg #[.int .i64 z, .slice ot nt ct, .string S, .slice oa q ca]] w fun e w' => ∃ o m c, e = .returned (.tuple #[.slice o m c, .int .i64 (rqK z nt S q L : Nat)]) ∧ CV w' o m (rqS z nt T S q L G) ∧ Below w.heap.size w w' := by
  obtain ⟨wa, hwa⟩ : ∃ x, w.alloc (.cells #[.int .i64 z, .slice ot nt ct, .string S, .slice oa q ca] 36) = x := ⟨_, rfl⟩
  have hR : RQ w (.int .i64 z) (.slice ot nt ct) (.string S) (.slice oa q ca) wa := by rw [← hwa]; exact RQ.new _ _ _ _ _ _
  have HR := Lib.hid hR
  have HM := Lib.hid (rmay_any z ot oa nt ct q ca S wa h1 h2 (Nat.le_trans hnt hct) (Nat.le_trans hq hca) hS)
  have HT : Hid (∀ w', Below w.heap.size w w' → Bytes w' ot nt T) := Lib.hid fun w' h => hT.later h
  have HA : Hid (∀ w', Below w.heap.size w w' → LBx w' w.heap.size oa q L G) := Lib.hid fun w' h => hL.x.later h
  have HN : Hid (nt ≤ ct ∧ ct ≤ maxLen ∧ (ot = none → nt = 0) ∧ (oa = none → q = 0) ∧ (∀ i, i < q → L i ≤ 100000) ∧ S.size ≤ maxLen) := Lib.hid ⟨hnt, hct, hno, hqo, hl, hS⟩
  have c0 := hR.c0
  have c1 := hR.c1
  have c2 := hR.c2
  have c3 := hR.c3
  clear hR hT hL hnt hct hno hqo hl hq hca hS
  unfold rqS rqK
  by_cases hm : MB z nt S q
  · simp only [if_pos hm]
    obtain ⟨k, rfl⟩ : ∃ k : Nat, z = (k : Int) := ⟨z.toNat, by have := hm.1; omega⟩
    rw [show (k : Int).toNat = k from by omega]
    have hd : decide (MB k nt S q) = true := decide_eq_true hm
    have HB : Hid (1 ≤ k ∧ k < 30 ∧ nt ≤ 32 ∧ S.size ≤ 64 ∧ q ≤ 3) := Lib.hid ⟨by have := hm.1; omega, by have := hm.2.1; omega, hm.2.2.2.2.1, hm.2.2.2.1, by rw [hm.2.2.1]; exact ar_le _⟩
    rw [hd] at HM
    clear hm hd
    go_enter Tryd.func23, Tryd.ntmps23
    go_wp2_with fail
    refine HM.out.mono ?_
    clear HM
    rintro e w1 ⟨rfl, hb1⟩
    have hR1 := HR.out.later hb1
    have H1 := Lib.hid hR1
    obtain ⟨w2, hw2⟩ : ∃ x, w1.alloc (.cells #[.int .u8 (k : Int)] 5) = x := ⟨_, rfl⟩
    have hal : Below w1.heap.size w1 w2 := by rw [← hw2]; exact (Below.refl _ _).alloc (Nat.le_refl _) _
    have H2 : Hid (RQ w (.int .i64 k) (.slice ot nt ct) (.string S) (.slice oa q ca) w2) := Lib.hid (hR1.later hal)
    have HB1 : Hid (Bytes w2 (some ⟨w1.heap.size, 0, none⟩) 1 (fun _ => k)) := Lib.hid (by rw [← hw2]; exact one_byte (by have := HB.out; omega))
    have d0 := hR1.c0
    have e1 := H2.out.c1
    have e2 := H2.out.c2
    have k1 : IntKind.u8.wrap (k : Int) = (k : Int) := IntWalk.u8_in _ (by have := HB.out; omega)
    clear hR1 hb1 hal HR c0 c1 c2 c3 hwa
    go_wp2_with (first
      | ((try rw [hw2])
         refine wpList_convS rfl (.tmp 15) rfl S w2 rfl HN.out.2.2.2.2.2 ?_
         intro cap w3 hcap hsb3 hb3
         have H3 : Hid (RQ w (.int .i64 k) (.slice ot nt ct) (.string S) (.slice oa q ca) w3) := Lib.hid (H2.out.later hb3)
         have HB3 : Hid (Bytes w3 (some ⟨w1.heap.size, 0, none⟩) 1 (fun _ => k) ∧ Bytes w3 ot nt T ∧ Bytes w3 (some ⟨w2.heap.size, 0, none⟩) S.size (byteF S) ∧ S.size ≤ cap ∧ cap ≤ maxLen) := Lib.hid ⟨HB1.out.later hb3, HT.out _ H3.out.o, hsb3.bytes, hsb3.le, hcap⟩
         obtain ⟨w4, hw4⟩ : ∃ x, w3.alloc (.cells #[.slice (some ⟨w1.heap.size, 0, none⟩) 1 1, .slice ot nt ct, .slice (some ⟨w2.heap.size, 0, none⟩) S.size cap] 33) = x := ⟨_, rfl⟩
         have HL4 : Hid (RL w4 w.heap.size (.slice (some ⟨w3.heap.size, 0, none⟩) 3 3) 3 (fun i => if i = 0 then 1 else if i = 1 then nt else S.size) (fun i => if i = 0 then fun _ => k else if i = 1 then T else byteF S)) := Lib.hid (by
           rw [← hw4]
           refine RL.made (w := w3) [.slice (some ⟨w1.heap.size, 0, none⟩) 1 1, .slice ot nt ct, .slice (some ⟨w2.heap.size, 0, none⟩) S.size cap] rfl (by unfold maxLen; omega) H3.out.o.size fun i hi => ?_
           rcases (by omega : i = 0 ∨ i = 1 ∨ i = 2) with rfl | rfl | rfl
           · exact ⟨_, 1, rfl, Nat.le_refl _, by unfold maxLen; omega, HB3.out.1, fun e => (by cases e)⟩
           · exact ⟨_, ct, rfl, HN.out.1, HN.out.2.1, HB3.out.2.1, HN.out.2.2.1⟩
           · exact ⟨_, cap, rfl, HB3.out.2.2.2.1, HB3.out.2.2.2.2, HB3.out.2.2.1, fun e => (by cases e)⟩)
         have hal4 : Below w3.heap.size w3 w4 := by rw [← hw4]; exact (Below.refl _ _).alloc (Nat.le_refl _) _
         have H4 : Hid (RQ w (.int .i64 k) (.slice ot nt ct) (.string S) (.slice oa q ca) w4) := Lib.hid (H3.out.later hal4)
         have f3 := H4.out.c3
         clear hal4 hsb3 hb3 hcap)
      | ((try rw [hw4])
         refine wpList_appRs rfl (.tmp 18) (.tmp 20) rfl w.heap.size _ 3 q ca _ L _ G oa w4 rfl HL4.out rfl (HA.out _ H4.out.o) HN.out.2.2.2.1 (by have := HB.out; omega) H4.out.o.size ?_
         intro v5 w5 hR5 hb5
         have H5 : Hid (RL w5 w.heap.size v5 (3 + q) (rqL nt S L) (rqG k T S G) ∧ Below w.heap.size w w5) := Lib.hid ⟨hR5, H4.out.o.trans hb5⟩
         clear hR5 hb5))
    obtain ⟨o5, c5, rfl, hc5, hm5, hL5, _⟩ := H5.out.1.lbs
    refine (renc_sk o5 (3 + q) c5 _ _ (Nat.le_trans hc5 hm5) (fun i hi => ?_) w5 hL5).mono ?_
    · unfold rqL catL
      have h9 := HB.out
      by_cases e : i < 3
      · rw [if_pos e]
        show (if i = 0 then 1 else if i = 1 then nt else S.size) ≤ 100000
        by_cases e2 : i = 0
        · rw [if_pos e2]; omega
        · rw [if_neg e2]
          by_cases e3 : i = 1
          · rw [if_pos e3]; omega
          · rw [if_neg e3]; omega
      · rw [if_neg e]; exact HN.out.2.2.2.2.1 _ (by omega)
    rintro e w6 ⟨o6, m6, c6, rfl, hv6, hb6⟩
    have H6 : Hid (CV w6 o6 m6 (encS (3 + q) (rqL nt S L) (rqG k T S G)) ∧ Below w.heap.size w w6) := Lib.hid ⟨hv6, H5.out.2.trans (hb6.mono H5.out.2.size)⟩
    clear hv6 hb6 hL5 hc5 hm5
    go_wp2_with fail
    go_ret2
    exact ⟨o6, m6, c6, rfl, H6.out.1, H6.out.2⟩
  · simp only [if_neg hm]
    have hd : decide (MB z nt S q) = false := decide_eq_false hm
    rw [hd] at HM
    clear hm hd
    go_enter Tryd.func23, Tryd.ntmps23
    go_wp2_with fail
    refine HM.out.mono ?_
    clear HM
    rintro e w1 ⟨rfl, hb1⟩
    have H1 := Lib.hid (HR.out.later hb1).o
    clear hb1 HR hwa c0 c1 c2 c3
    go_wp2_with fail
    go_ret2
    exact ⟨none, 0, 0, rfl, CV.none _, H1.out⟩
end Go.Proofs.YtmabhjifldafaaaDoor
