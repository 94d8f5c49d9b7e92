/- Requests and responses come back from their bytes, and bytes from them: in plain numbers. -/
import Derived.Test.YtmabhjifldafaaaDoorRqA
namespace Go.Proofs.YtmabhjifldafaaaDoor
set_option linter.unusedVariables false
set_option linter.unusedSimpArgs false
open Go.RowKit

theorem strF_byteF (S : ByteArray) : strF S.size (byteF S) = S := by
  have h1 : (strF S.size (byteF S)).data.toList = S.data.toList := by
    refine List.ext_getElem? fun i => ?_
    unfold strF
    rw [strOfNums_data, List.getElem?_map, List.getElem?_map]
    by_cases h : i < S.size
    · have h' : i < S.data.size := h
      rw [List.getElem?_range h, Array.getElem?_toList, Array.getElem?_eq_getElem h']
      simp only [Option.map_some, Option.some.injEq]
      have e : byteF S i = (S.data[i]'h').toNat := by
        unfold byteF
        first
          | rw [List.getD_eq_getElem?_getD, Array.getElem?_toList, Array.getElem?_eq_getElem h']; rfl
          | (simp [h'])
      rw [e]
      exact UInt8.toNat.inj (by simp)
    · have h' : ¬ i < S.data.size := h
      rw [List.getElem?_eq_none (by simp; omega), Array.getElem?_toList, Array.getElem?_eq_none (by omega)]
      rfl
  have h2 : (strF S.size (byteF S)).data = S.data := Array.toList_inj.1 h1
  cases S
  exact congrArg ByteArray.mk h2
theorem wl_congr {L L' : Nat → Nat} : ∀ {n : Nat}, (∀ i, i < n → L i = L' i) → wl L n = wl L' n
  | 0, _ => rfl
  | n + 1, h => by
    show wl L n + 2 + L n = wl L' n + 2 + L' n
    rw [wl_congr (n := n) (fun i hi => h i (by omega)), h n (by omega)]
theorem wf_congr {q : Nat} {L L' : Nat → Nat} {G G' : Nat → Nat → Nat} : ∀ {n : Nat}, (∀ i, i < n → L i = L' i) → (∀ i, i < n → ∀ k, k < L i → G i k = G' i k) → ∀ k, k < wl L n → wf q L G n k = wf q L' G' n k
  | 0, _, _ => fun _ _ => rfl
  | n + 1, hl, hg => fun k hk => by
    have e1 := wl_congr (n := n) (fun i hi => hl i (by omega))
    have e2 := hl n (by omega)
    have hk' : k < wl L n + 2 + L n := hk
    show catF (wl L n + 2) (catF (wl L n) (wf q L G n) (two (L n / 256) (L n % 256))) (G n) k = catF (wl L' n + 2) (catF (wl L' n) (wf q L' G' n) (two (L' n / 256) (L' n % 256))) (G' n) k
    rw [← e1, ← e2]
    unfold catF
    by_cases h1 : k < wl L n + 2
    · rw [if_pos h1, if_pos h1]
      by_cases h2 : k < wl L n
      · rw [if_pos h2, if_pos h2]; exact wf_congr (n := n) (fun i hi => hl i (by omega)) (fun i hi => hg i (by omega)) k h2
      · rw [if_neg h2, if_neg h2]
    · rw [if_neg h1, if_neg h1]; exact hg n (by omega) _ (by omega)
theorem fits_wf {q : Nat} {L : Nat → Nat} {G : Nat → Nat → Nat} (h1 : q ≤ 16) (h2 : wl L q ≤ 1024) : Fits (wl L q) (wf q L G q) :=
  ⟨wl_pos L q, h2, by rw [wf_head]; exact h1, by rw [wf_head]; exact ps_wf (fun _ _ => rfl) (Nat.le_refl _)⟩
theorem dG_wf {q : Nat} {L : Nat → Nat} {G : Nat → Nat → Nat} {i k : Nat} (hi : i < q) (hk : k < L i) : dG (wf q L G q) i k = G i k := by
  show wf q L G q (ps (wf q L G q) i + 2 + k) = _
  rw [ps_wf (n := q) (q := q) (fun _ _ => rfl) (Nat.le_of_lt hi)]
  exact wf_at hi hk
theorem fl_wf' {q : Nat} {L : Nat → Nat} {G : Nat → Nat → Nat} {i : Nat} (hi : i < q) : fl (wf q L G q) i = L i := fl_wf (n := q) (q := q) (G := G) (fun _ _ => rfl) hi
theorem QV.congr {w : World} {r : Value} {z : Int} {nt : Nat} {T T' : Nat → Nat} {S : ByteArray} {q : Nat} {L L' : Nat → Nat} {G G' : Nat → Nat → Nat} (h : QV w r z nt T S q L G) (ht : ∀ k, k < nt → T k = T' k) (hl : ∀ i, i < q → L i = L' i) (hg : ∀ i, i < q → ∀ k, k < L i → G i k = G' i k) : QV w r z nt T' S q L' G' := by
  obtain ⟨ot, ct, oa, ca, h1, h2, h3, h4, h5, h6, h7, h8, h9⟩ := h
  exact ⟨ot, ct, oa, ca, h1, h2.congr ht, h3, h4, h5, h6.congr hl hg, h7, h8, h9⟩
theorem PV.congr {w : World} {r : Value} {z : Int} {q : Nat} {L L' : Nat → Nat} {G G' : Nat → Nat → Nat} (h : PV w r z q L G) (hl : ∀ i, i < q → L i = L' i) (hg : ∀ i, i < q → ∀ k, k < L i → G i k = G' i k) : PV w r z q L' G' := by
  obtain ⟨oa, ca, h1, h6, h7, h8, h9⟩ := h
  exact ⟨oa, ca, h1, h6.congr hl hg, h7, h8, h9⟩
/-- A row that reads as known bytes has them. -/
theorem CV.row {w : World} {o : Option Addr} {m N : Nat} {W : Nat → Nat} (h : CV w o m (strF N W)) (hW : ∀ k, k < N → W k < 256) : m = N ∧ Bytes w o m W := by
  obtain ⟨F, h1, h2, h3⟩ := h
  obtain ⟨e1, e2⟩ := strF_inj (fun i hi => (h1 i hi).1) hW h3
  exact ⟨e1, h1.congr e2⟩
theorem LBs.lt256 {w : World} {oa : Option Addr} {n : Nat} {L : Nat → Nat} {G : Nat → Nat → Nat} (h : LBs w oa n L G) : ∀ i, i < n → ∀ k, k < L i → G i k < 256 := fun i hi k hk => by
  obtain ⟨_, _, _, _, _, _, _, h4, _⟩ := h i hi
  exact (h4 k hk).1
theorem encK0 {q : Nat} {L : Nat → Nat} (h : encK q L = 0) : q ≤ 16 ∧ wl L q ≤ 1024 := by
  unfold encK at h
  by_cases e : q ≤ 16 ∧ wl L q ≤ 1024
  · exact e
  · rw [if_neg e] at h; omega
/-- A request's bytes ask for it. -/
theorem back_q {z : Int} {nt : Nat} {T : Nat → Nat} {S : ByteArray} {q : Nat} {L : Nat → Nat} {G : Nat → Nat → Nat} (h : rqK z nt S q L = 0) (hT : ∀ k, k < nt → T k < 256) (hl : ∀ i, i < q → L i ≤ 60000) (hg : ∀ i, i < q → ∀ k, k < L i → G i k < 256) :
    ∃ N W, rqS z nt T S q L G = strF N W ∧ (∀ k, k < N → W k < 256) ∧ dqE N W = 0 ∧ (qz N W : Int) = z ∧ qn N W = nt ∧ (∀ k, k < nt → dG W 1 k = T k) ∧ qS N W = S ∧ qq N W = q ∧ (∀ i, i < q → fl W (3 + i) = L i) ∧ (∀ i, i < q → ∀ k, k < L i → dG W (3 + i) k = G i k) := by
  unfold rqK at h
  by_cases hm : MB z nt S q
  case neg => rw [if_neg hm] at h; omega
  case pos =>
    rw [if_pos hm] at h
    obtain ⟨k1, k2⟩ := encK0 h
    obtain ⟨k, hk⟩ : ∃ k, z.toNat = k := ⟨_, rfl⟩
    have hzk : z = (k : Int) := by have := hm.1; omega
    have hL0 : rqL nt S L 0 = 1 := rfl
    have hL1 : rqL nt S L 1 = nt := rfl
    have hL2 : rqL nt S L 2 = S.size := rfl
    have hL3 : ∀ i, rqL nt S L (3 + i) = L i := fun i => by unfold rqL catL; rw [if_neg (by omega), show 3 + i - 3 = i by omega]
    have hG0 : rqG k T S G 0 = fun _ => k := rfl
    have hG1 : rqG k T S G 1 = T := rfl
    have hG2 : rqG k T S G 2 = byteF S := rfl
    have hG3 : ∀ i, rqG k T S G (3 + i) = G i := fun i => by unfold rqG catG; rw [if_neg (by omega), show 3 + i - 3 = i by omega]
    have hf : Fits (wl (rqL nt S L) (3 + q)) (wf (3 + q) (rqL nt S L) (rqG k T S G) (3 + q)) := fits_wf k1 k2
    have d0 : dG (wf (3 + q) (rqL nt S L) (rqG k T S G) (3 + q)) 0 0 = k := by rw [dG_wf (by omega) (by rw [hL0]; omega), hG0]
    have d1 : ∀ j, j < nt → dG (wf (3 + q) (rqL nt S L) (rqG k T S G) (3 + q)) 1 j = T j := fun j hj => by rw [dG_wf (by omega) (by rw [hL1]; exact hj), hG1]
    have d2 : strF S.size (dG (wf (3 + q) (rqL nt S L) (rqG k T S G) (3 + q)) 2) = S := by
      rw [strF_congr (fun j hj => by rw [dG_wf (by omega) (by rw [hL2]; exact hj), hG2])]
      exact strF_byteF S
    have f1 : fl (wf (3 + q) (rqL nt S L) (rqG k T S G) (3 + q)) 1 = nt := by rw [fl_wf' (by omega), hL1]
    have f2 : fl (wf (3 + q) (rqL nt S L) (rqG k T S G) (3 + q)) 2 = S.size := by rw [fl_wf' (by omega), hL2]
    have hd : DQ (wl (rqL nt S L) (3 + q)) (wf (3 + q) (rqL nt S L) (rqG k T S G) (3 + q)) := by
      refine ⟨hf, by rw [wf_head]; omega, by rw [fl_wf' (by omega), hL0], ?_⟩
      rw [d0, f1, f2, d2, wf_head, show 3 + q - 3 = q by omega, ← hzk]; exact hm
    refine ⟨_, wf (3 + q) (rqL nt S L) (rqG k T S G) (3 + q), ?_, wf_lt (by omega) _ (fun i hi => ?_) (fun i hi j hj => ?_), if_pos hd, ?_, ?_, d1, ?_, ?_, fun i hi => by rw [fl_wf' (by omega), hL3], fun i hi j hj => by rw [dG_wf (by omega) (by rw [hL3]; exact hj), hG3]⟩
    · unfold rqS encS; rw [if_pos hm, if_pos ⟨k1, k2⟩, hk]
    · rcases (by omega : i = 0 ∨ i = 1 ∨ i = 2 ∨ 3 ≤ i) with rfl | rfl | rfl | h3
      · rw [hL0]; omega
      · rw [hL1]; have := hm.2.2.2.2.1; omega
      · rw [hL2]; have := hm.2.2.2.1; omega
      · have := hL3 (i - 3); rw [show 3 + (i - 3) = i by omega] at this; rw [this]; have := hl (i - 3) (by omega); omega
    · rcases (by omega : i = 0 ∨ i = 1 ∨ i = 2 ∨ 3 ≤ i) with rfl | rfl | rfl | h3
      · rw [hG0]; have := hm.2.1; show k < 256; omega
      · rw [hL1] at hj; rw [hG1]; exact hT j hj
      · rw [hG2]; exact byteF_lt _ _
      · have e1 := hL3 (i - 3); have e2 := hG3 (i - 3); rw [show 3 + (i - 3) = i by omega] at e1 e2; rw [e1] at hj; rw [e2]; exact hg (i - 3) (by omega) j hj
    · unfold qz; rw [if_pos hd, d0, hzk]
    · unfold qn; rw [if_pos hd, f1]
    · unfold qS; rw [if_pos hd, f2, d2]
    · unfold qq; rw [if_pos hd, wf_head]; omega
theorem back_p {z : Int} {q : Nat} {L : Nat → Nat} {G : Nat → Nat → Nat} (h : rpK z q L = 0) (hl : ∀ i, i < q → L i ≤ 60000) (hg : ∀ i, i < q → ∀ k, k < L i → G i k < 256) :
    ∃ N W, rpS z q L G = strF N W ∧ (∀ k, k < N → W k < 256) ∧ dpE N W = 0 ∧ (pc N W : Int) = z ∧ pq N W = q ∧ (∀ i, i < q → fl W (1 + i) = L i) ∧ (∀ i, i < q → ∀ k, k < L i → dG W (1 + i) k = G i k) := by
  unfold rpK at h
  by_cases hm : 0 ≤ z ∧ z ≤ 65535
  case neg => rw [if_neg hm] at h; omega
  case pos =>
    rw [if_pos hm] at h
    obtain ⟨k1, k2⟩ := encK0 h
    obtain ⟨k, hk⟩ : ∃ k, z.toNat = k := ⟨_, rfl⟩
    have hzk : z = (k : Int) := by omega
    have hL0 : rpL L 0 = 2 := rfl
    have hL3 : ∀ i, rpL L (1 + i) = L i := fun i => by unfold rpL catL; rw [if_neg (by omega), show 1 + i - 1 = i by omega]
    have hG0 : rpG k G 0 = two (k / 256) (k % 256) := rfl
    have hG3 : ∀ i, rpG k G (1 + i) = G i := fun i => by unfold rpG catG; rw [if_neg (by omega), show 1 + i - 1 = i by omega]
    have hf : Fits (wl (rpL L) (1 + q)) (wf (1 + q) (rpL L) (rpG k G) (1 + q)) := fits_wf k1 k2
    have d0 : dG (wf (1 + q) (rpL L) (rpG k G) (1 + q)) 0 0 = k / 256 := by rw [dG_wf (by omega) (by rw [hL0]; omega), hG0]; rfl
    have d1 : dG (wf (1 + q) (rpL L) (rpG k G) (1 + q)) 0 1 = k % 256 := by rw [dG_wf (by omega) (by rw [hL0]; omega), hG0]; rfl
    have hd : DP (wl (rpL L) (1 + q)) (wf (1 + q) (rpL L) (rpG k G) (1 + q)) := ⟨hf, by rw [wf_head]; omega, by rw [fl_wf' (by omega), hL0]⟩
    refine ⟨_, wf (1 + q) (rpL L) (rpG k G) (1 + q), ?_, wf_lt (by omega) _ (fun i hi => ?_) (fun i hi j hj => ?_), if_pos hd, ?_, ?_, fun i hi => by rw [fl_wf' (by omega), hL3], fun i hi j hj => by rw [dG_wf (by omega) (by rw [hL3]; exact hj), hG3]⟩
    · unfold rpS encS; rw [if_pos hm, if_pos ⟨k1, k2⟩, hk]
    · rcases (by omega : i = 0 ∨ 1 ≤ i) with rfl | h3
      · rw [hL0]; omega
      · have := hL3 (i - 1); rw [show 1 + (i - 1) = i by omega] at this; rw [this]; have := hl (i - 1) (by omega); omega
    · rcases (by omega : i = 0 ∨ 1 ≤ i) with rfl | h3
      · rw [hG0]; exact two_lt (by omega) (by omega) j
      · have e1 := hL3 (i - 1); have e2 := hG3 (i - 1); rw [show 1 + (i - 1) = i by omega] at e1 e2; rw [e1] at hj; rw [e2]; exact hg (i - 1) (by omega) j hj
    · unfold pc; rw [if_pos hd, d0, d1, hzk]; omega
    · unfold pq; rw [if_pos hd, wf_head]; omega
/-- Bytes that ask for something are told by it. -/
theorem told_q {n : Nat} {B : Nat → Nat} (hb : ∀ k, k < n → B k < 256) (h : dqE n B = 0) :
    rqS (qz n B) (qn n B) (dG B 1) (qS n B) (qq n B) (fun i => fl B (3 + i)) (fun i => dG B (3 + i)) = strF n B ∧ rqK (qz n B) (qn n B) (qS n B) (qq n B) (fun i => fl B (3 + i)) = 0 := by
  have hd : DQ n B := by
    unfold dqE at h
    by_cases e : DQ n B
    · exact e
    · rw [if_neg e] at h
      by_cases e2 : Fits n B
      · rw [if_pos e2] at h; omega
      · rw [if_neg e2] at h
        by_cases e3 : 1024 < n
        · rw [if_pos e3] at h; omega
        · rw [if_neg e3] at h; omega
  have e1 : qz n B = dG B 0 0 := if_pos hd
  have e2 : qn n B = fl B 1 := if_pos hd
  have e3 : qS n B = strF (fl B 2) (dG B 2) := if_pos hd
  have e4 : qq n B = B 0 - 3 := if_pos hd
  rw [e1, e2, e3, e4]
  obtain ⟨hf, h3, h1, hm⟩ := hd
  have hbl : ∀ i, i < B 0 → ∀ k, k < fl B i → dG B i k < 256 := fun i hi k hk => hb _ (by have := hf.at hi; omega)
  have hq3 : 3 + (B 0 - 3) = B 0 := by omega
  have hL : ∀ i, i < B 0 → rqL (fl B 1) (strF (fl B 2) (dG B 2)) (fun i => fl B (3 + i)) i = fl B i := fun i hi => by
    unfold rqL catL
    by_cases e : i < 3
    · rw [if_pos e]
      rcases (by omega : i = 0 ∨ i = 1 ∨ i = 2) with rfl | rfl | rfl
      · exact h1.symm
      · rfl
      · exact strF_size _ _
    · rw [if_neg e]; show fl B (3 + (i - 3)) = _; rw [show 3 + (i - 3) = i by omega]
  have hG : ∀ i, i < B 0 → ∀ k, k < fl B i → rqG (dG B 0 0) (dG B 1) (strF (fl B 2) (dG B 2)) (fun i => dG B (3 + i)) i k = dG B i k := fun i hi k hk => by
    unfold rqG catG
    by_cases e : i < 3
    · rw [if_pos e]
      rcases (by omega : i = 0 ∨ i = 1 ∨ i = 2) with rfl | rfl | rfl
      · rw [h1] at hk; obtain rfl : k = 0 := by omega
        rfl
      · rfl
      · exact byteF_strF (fun j hj => hbl 2 hi j hj) k hk
    · rw [if_neg e]; show dG B (3 + (i - 3)) k = _; rw [show 3 + (i - 3) = i by omega]
  have hw := wf_fl (n := n) (B := B) hb (i := B 0) (Nat.le_of_eq hf.2.2.2)
  rw [hf.2.2.2] at hw
  have hwl : wl (rqL (fl B 1) (strF (fl B 2) (dG B 2)) (fun i => fl B (3 + i))) (B 0) = n := by rw [wl_congr hL]; exact hw.1
  have hok : B 0 ≤ 16 ∧ wl (rqL (fl B 1) (strF (fl B 2) (dG B 2)) (fun i => fl B (3 + i))) (B 0) ≤ 1024 := ⟨hf.2.2.1, by rw [hwl]; exact hf.2.1⟩
  constructor
  · unfold rqS encS
    rw [if_pos hm, hq3, if_pos hok, hwl]
    refine strF_congr fun k hk => ?_
    rw [show ((dG B 0 0 : Nat) : Int).toNat = dG B 0 0 from Int.toNat_natCast _]
    rw [wf_congr hL (fun i hi j hj => hG i hi j (by rw [← hL i hi]; exact hj)) k (by rw [hwl]; exact hk)]
    exact hw.2 k hk
  · unfold rqK encK
    rw [if_pos hm, hq3, if_pos hok]
theorem not_dq {n : Nat} {B : Nat → Nat} (h : dqE n B ≠ 0) : qz n B = 0 := if_neg fun hd => h (if_pos hd)
end Go.Proofs.YtmabhjifldafaaaDoor
