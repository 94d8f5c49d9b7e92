/- Progress: the program's answers beside the document's. -/
import Derived.Test.YtgiffaeckhhmpaaDoorPi2
import Derived.Test.YtgiffaeckhhmpaaDoorPh4
namespace Go.Proofs.YtgiffaeckhhmpaaDoor
set_option linter.unusedVariables false
set_option linter.unusedSimpArgs false
open Go.RowKit
def ErV (v : Value) (k : Nat) : Prop := (k = 0 ∧ v = .nilIface) ∨ (k ≠ 0 ∧ v = .iface 83 (.int .i64 (k : Int)))
theorem num_ev {v : Value} {k : Nat} (h : ErV v k) (w : World) (hg : Handle w) : Calls Tryd.prog 11 #[v] w fun e w' => e = .returned (.int .i64 (k : Int)) ∧ Below w.heap.size w w' := by
  rcases h with ⟨rfl, rfl⟩ | ⟨_, rfl⟩
  · exact num_nil03 w
  · exact num_err03 _ w hg
theorem subK_ex (K N : Int) (gen : Nat) (S : Nat → Sh) (n : Nat) (mk mark : ByteArray) (s : Sh) : ∃ k, subK K N gen S n mk mark s k := by
  by_cases h1 : MayG K N gen S n mk.size
  · by_cases h2 : mark = mk
    · by_cases h3 : (n : Int) = K
      · exact ⟨15, .inr (.inl ⟨rfl, h1, .inr h3⟩)⟩
      · exact ⟨_, .inr (.inr ⟨rfl, h1, h2, h3⟩)⟩
    · exact ⟨15, .inr (.inl ⟨rfl, h1, .inl h2⟩)⟩
  · exact ⟨1, .inl ⟨rfl, h1⟩⟩
theorem secK_ex (K N : Int) (gen : Nat) (S : Nat → Sh) (n ml : Nat) : ∃ k, secK K N gen S n ml k := by
  by_cases h1 : MayG K N gen S n ml
  · by_cases h2 : (n : Int) = K
    · exact ⟨0, .inr (.inr ⟨rfl, h1, h2⟩)⟩
    · exact ⟨2, .inr (.inl ⟨rfl, h1, by have := h1.2.2.1; omega⟩)⟩
  · exact ⟨1, .inl ⟨rfl, h1⟩⟩
theorem submit_pair (K N : Int) (gen n ca cb ix gn ln cp : Nat) (mk mark : ByteArray) (oa ob od : Option Addr) (S : Nat → Sh) (f : Nat → Nat) (hix : ∀ i, i < n → (S i).ix < 256) (hn : n < 1000) (h1 : n ≤ ca) (h2 : ca ≤ maxLen) (h3 : n ≤ cb) (h4 : cb ≤ maxLen) (hmk : mk.size < 100000000) (hix2 : ix < 256) (hln : ln < 100000000) :
    ∃ (k : Nat) (Ko No : Int) (geno no : Nat) (mko : ByteArray) (So : Nat → Sh) (d : Bool),
      (∀ A tb, tb < A.heap.size → Shs tb A oa n S → IsSh tb A [.int .u8 (ix : Int), .int .u32 (gn : Int), .slice od ln cp] ⟨ix, gn, ln, f⟩ → Calls Tryd.prog 9 #[.agg #[.int .i64 K, .int .i64 N, .int .u32 (gen : Int), .string mk, .slice oa n ca], .string mark, .agg #[.int .u8 (ix : Int), .int .u32 (gn : Int), .slice od ln cp]] A fun e w' => ∃ o c ev, e = .returned (.tuple #[.agg #[.int .i64 Ko, .int .i64 No, .int .u32 (geno : Int), .string mko, .slice o no c], .bool d, ev]) ∧ ErV ev k ∧ Shs tb w' o no So ∧ Below A.heap.size A w') ∧
      (∀ A tb, tb < A.heap.size → Shs tb A ob n S → IsSh tb A [.int .u8 (ix : Int), .int .u32 (gn : Int), .slice od ln cp] ⟨ix, gn, ln, f⟩ → Calls Tryd.prog 15 #[.agg #[.int .i64 K, .int .i64 N, .int .u32 (gen : Int), .string mk, .slice ob n cb], .string mark, .agg #[.int .u8 (ix : Int), .int .u32 (gn : Int), .slice od ln cp]] A fun e w' => ∃ o c, e = .returned (.tuple #[.agg #[.int .i64 Ko, .int .i64 No, .int .u32 (geno : Int), .string mko, .slice o no c], .bool d, .int .i64 (k : Int)]) ∧ Shs tb w' o no So ∧ Below A.heap.size A w') ∧ no ≤ 1000 := by
  obtain ⟨k, hk⟩ := subK_ex K N gen S n mk mark ⟨ix, gn, ln, f⟩
  by_cases h0 : k = 0
  · subst h0
    refine ⟨0, K, N, gen, n + 1, mk, catSh n S (fun _ => ⟨ix, gn, ln, f⟩), decide ((n : Int) + 1 = K), fun A tb htb hS hs => ?_, fun A tb htb hS hs => ?_, by omega⟩
    · refine (submit_any tb K N gen n ca ix gn ln cp 0 mk mark oa od S f A htb hS hix (by omega) h1 h2 hmk hs hix2 hln hk).mono ?_
      rintro e w' ⟨hb, (⟨h0, _⟩ | ⟨_, o, c, he, _, _, _, h9⟩)⟩
      · exact absurd rfl h0
      · exact ⟨o, c, _, he, .inl ⟨rfl, rfl⟩, h9, hb⟩
    · refine (rsubmit_any tb K N gen n cb ix gn ln cp 0 mk mark ob od S f A htb hS hix (by omega) h3 h4 hmk hs hix2 hln hk).mono ?_
      rintro e w' ⟨hb, (⟨h0, _⟩ | ⟨_, o, c, he, _, _, h9⟩)⟩
      · exact absurd rfl h0
      · exact ⟨o, c, he, h9, hb⟩
  · refine ⟨k, 0, 0, 0, 0, ⟨#[]⟩, fun _ => default, false, fun A tb htb hS hs => ?_, fun A tb htb hS hs => ?_, by omega⟩
    · refine (submit_any tb K N gen n ca ix gn ln cp k mk mark oa od S f A htb hS hix (by omega) h1 h2 hmk hs hix2 hln hk).mono ?_
      rintro e w' ⟨hb, (⟨_, he⟩ | ⟨h9, _⟩)⟩
      · exact ⟨none, 0, _, he, .inr ⟨h0, rfl⟩, fun i hi => absurd hi (Nat.not_lt_zero _), hb⟩
      · exact absurd h9 h0
    · refine (rsubmit_any tb K N gen n cb ix gn ln cp k mk mark ob od S f A htb hS hix (by omega) h3 h4 hmk hs hix2 hln hk).mono ?_
      rintro e w' ⟨hb, (⟨_, he⟩ | ⟨h9, _⟩)⟩
      · exact ⟨none, 0, he, fun i hi => absurd hi (Nat.not_lt_zero _), hb⟩
      · exact absurd h9 h0
/-- A row that reads as a string. -/
def CVx (w : World) (v : Value) (S1 : ByteArray) : Prop := ∃ o m c F, v = .slice o m c ∧ Bytes w o m F ∧ (o = none → m = 0) ∧ strF m F = S1
theorem CVx.later {w w' : World} {v : Value} {S1 : ByteArray} (h : CVx w v S1) (hb : Below w.heap.size w w') : CVx w' v S1 := by
  obtain ⟨o, m, c, F, h1, h2, h3, h4⟩ := h
  exact ⟨o, m, c, F, h1, h2.later hb, h3, h4⟩
theorem CVx.conv {w : World} {v : Value} {S1 : ByteArray} (h : CVx w v S1) : (convert 34 9 v).run Tryd.prog w = .ok (.string S1) w := by
  obtain ⟨o, m, c, F, h1, h2, h3, h4⟩ := h
  rw [h1, ← h4]; exact conv_any h2 h3
theorem CVx.none (w : World) : CVx w (.slice none 0 0) ⟨#[]⟩ := ⟨_, 0, 0, fun _ => 0, rfl, fun k hk => absurd hk (Nat.not_lt_zero _), fun _ => rfl, rfl⟩
theorem secret_pair (K N : Int) (gen n ca cb : Nat) (mk : ByteArray) (oa ob : Option Addr) (S : Nat → Sh) (hix : ∀ i, i < n → (S i).ix < 256) (hn : n ≤ 1000) (h1 : n ≤ ca) (h2 : ca ≤ maxLen) (h3 : n ≤ cb) (hmk : mk.size < 100000000) :
    ∃ (k : Nat) (S1 : ByteArray),
      (∀ A tb, TabIn A tb → Shs tb A oa n S → Calls Tryd.prog 13 #[.pointer (some ⟨tb, 0, none⟩), .agg #[.int .i64 K, .int .i64 N, .int .u32 (gen : Int), .string mk, .slice oa n ca]] A fun e w' => ∃ v ev, e = .returned (.tuple #[v, ev]) ∧ ErV ev k ∧ CVx w' v S1 ∧ Left tb A w') ∧
      (∀ A tb, Shs tb A ob n S → Calls Tryd.prog 16 #[.agg #[.int .i64 K, .int .i64 N, .int .u32 (gen : Int), .string mk, .slice ob n cb]] A fun e w' => ∃ v, e = .returned (.tuple #[v, .int .i64 (k : Int)]) ∧ CVx w' v S1 ∧ Below A.heap.size A w') := by
  obtain ⟨k, hk⟩ := secK_ex K N gen S n mk.size
  by_cases h0 : k = 0
  · subst h0
    refine ⟨0, strF 32 (jnF S 0 n), fun A tb hT hS => ?_, fun A tb hS => ?_⟩
    · refine (secret_any tb K N gen n ca 0 mk oa S A hT hS hix (by omega) h1 h2 hmk hk).mono ?_
      rintro e w' (⟨_, g, he, hg, hR, hL⟩ | ⟨h0, _⟩)
      · exact ⟨_, _, he, .inl ⟨rfl, rfl⟩, ⟨_, 32, 32, jnF S 0 n, rfl, hR.bytes (fun i _ => jnF_lt _ _ _ _), (fun e => by cases e), rfl⟩, hL⟩
      · exact absurd rfl h0
    · refine (rsecret_any tb K N gen n cb 0 mk ob S A hS hix hn h3 hmk hk).mono ?_
      rintro e w' (⟨_, g, cap, he, hg, hB, hb⟩ | ⟨h0, _⟩)
      · exact ⟨_, he, ⟨_, 32, cap, jnF S 0 n, rfl, hB, (fun e => by cases e), rfl⟩, hb⟩
      · exact absurd rfl h0
  · refine ⟨k, ⟨#[]⟩, fun A tb hT hS => ?_, fun A tb hS => ?_⟩
    · refine (secret_any tb K N gen n ca k mk oa S A hT hS hix (by omega) h1 h2 hmk hk).mono ?_
      rintro e w' (⟨h9, _⟩ | ⟨_, he, hL⟩)
      · exact absurd h9 h0
      · exact ⟨_, _, he, .inr ⟨h0, rfl⟩, CVx.none _, hL⟩
    · refine (rsecret_any tb K N gen n cb k mk ob S A hS hix hn h3 hmk hk).mono ?_
      rintro e w' (⟨h9, _⟩ | ⟨_, he, hb⟩)
      · exact absurd h9 h0
      · exact ⟨_, he, CVx.none _, hb⟩
end Go.Proofs.YtgiffaeckhhmpaaDoor
