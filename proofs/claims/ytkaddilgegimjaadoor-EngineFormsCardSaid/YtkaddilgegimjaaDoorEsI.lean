/- Layer 30: the program and the document, side by side: one answer for both. -/
import Derived.Test.YtkaddilgegimjaaDoorEsH
import Derived.Test.YtkaddilgegimjaaDoorEn7
import Derived.Test.YtkaddilgegimjaaDoorEn8
import Derived.Test.YtkaddilgegimjaaDoorEs7
import Derived.Test.YtkaddilgegimjaaDoorEnA
namespace Go.Proofs.YtkaddilgegimjaaDoor
set_option linter.unusedVariables false
set_option linter.unusedSimpArgs false
open Go.RowKit

/-- An error, by its number. -/
def ErrV (v : Value) (k : Nat) : Prop := (k = 0 ∧ v = .nilIface) ∨ (k ≠ 0 ∧ v = .iface 146 (.int .i64 (k : Int)))
theorem ErrV.nil : ErrV .nilIface 0 := .inl ⟨rfl, rfl⟩
theorem ErrV.of {k : Nat} (h : k ≠ 0) : ErrV (.iface 146 (.int .i64 (k : Int))) k := .inr ⟨h, rfl⟩
theorem num_errv {v : Value} {k : Nat} (he : ErrV v k) (w : World) (h : Handle w) :
    Calls Tryd.prog 53 #[v] w fun e w' => e = .returned (.int .i64 (k : Int)) ∧ Below w.heap.size w w' := by
  rcases he with ⟨rfl, rfl⟩ | ⟨_, rfl⟩
  · exact num_nil30 w
  · exact num_err30 k w h
theorem Vers.zero {w : World} {oa : Option Addr} {V : Nat → Ver} : Vers w oa 0 V := fun i hi => absurd hi (Nat.not_lt_zero i)
theorem Bytes.zero {w : World} {oa : Option Addr} {f : Nat → Nat} : Bytes w oa 0 f := fun i hi => absurd hi (Nat.not_lt_zero i)

/-- The program's answer that is a secret. -/
def SecO (w : World) (n last : Nat) (max : Int) (V : Nat → Ver) (k : Nat) (e : Ending) (w' : World) : Prop := ∃ o c ve, e = .returned (.tuple #[.agg #[.slice o n c, .int .u32 (last : Int), .int .i64 max], ve]) ∧ ErrV ve k ∧ Vers w' o n V ∧ Below w.heap.size w w'
/-- The document's. -/
def SecD (w : World) (n last : Nat) (max : Int) (V : Nat → Ver) (k : Nat) (e : Ending) (w' : World) : Prop := ∃ o c, e = .returned (.tuple #[.agg #[.slice o n c, .int .u32 (last : Int), .int .i64 max], .int .i64 (k : Int)]) ∧ Vers w' o n V ∧ Below w.heap.size w w'
/-- The program's answer that is a version. -/
def VerO (w : World) (m len : Nat) (f : Nat → Nat) (t : Nat) (st : Int) (k : Nat) (e : Ending) (w' : World) : Prop := ∃ o c ve, e = .returned (.tuple #[.agg #[.int .u32 (m : Int), .slice o len c, .int .u64 (t : Int), .int .i64 st], ve]) ∧ ErrV ve k ∧ Bytes w' o len f ∧ Below w.heap.size w w'
def VerD (w : World) (m len : Nat) (f : Nat → Nat) (t : Nat) (st : Int) (k : Nat) (e : Ending) (w' : World) : Prop := ∃ o c, e = .returned (.tuple #[.agg #[.int .u32 (m : Int), .slice o len c, .int .u64 (t : Int), .int .i64 st], .int .i64 (k : Int)]) ∧ Bytes w' o len f ∧ Below w.heap.size w w'

theorem secO_err {F : FuncId} {A : Array Value} {w : World} {k : Nat} {V : Nat → Ver} (hk : k ≠ 0) (h : Calls Tryd.prog F A w fun e w' => e = .returned (.tuple #[.agg #[.slice none 0 0, .int .u32 0, .int .i64 0], .iface 146 (.int .i64 (k : Int))]) ∧ Below w.heap.size w w') : Calls Tryd.prog F A w (SecO w 0 0 0 V k) :=
  h.mono fun _ _ ⟨he, hb⟩ => ⟨none, 0, _, he, ErrV.of hk, Vers.zero, hb⟩
theorem secD_err {F : FuncId} {A : Array Value} {w : World} {k : Nat} {V : Nat → Ver} (h : Calls Tryd.prog F A w fun e w' => e = .returned (.tuple #[.agg #[.slice none 0 0, .int .u32 0, .int .i64 0], .int .i64 (k : Int)]) ∧ Below w.heap.size w w') : Calls Tryd.prog F A w (SecD w 0 0 0 V k) :=
  h.mono fun _ _ ⟨he, hb⟩ => ⟨none, 0, he, Vers.zero, hb⟩
theorem verO_err {F : FuncId} {A : Array Value} {w : World} {k : Nat} {f : Nat → Nat} (hk : k ≠ 0) (h : Calls Tryd.prog F A w fun e w' => e = .returned (.tuple #[.agg #[.int .u32 0, .slice none 0 0, .int .u64 0, .int .i64 0], .iface 146 (.int .i64 (k : Int))]) ∧ Below w.heap.size w w') : Calls Tryd.prog F A w (VerO w 0 0 f 0 0 k) :=
  h.mono fun _ _ ⟨he, hb⟩ => ⟨none, 0, _, he, ErrV.of hk, Bytes.zero, hb⟩
theorem verD_err {F : FuncId} {A : Array Value} {w : World} {k : Nat} {f : Nat → Nat} (h : Calls Tryd.prog F A w fun e w' => e = .returned (.tuple #[.agg #[.int .u32 0, .slice none 0 0, .int .u64 0, .int .i64 0], .int .i64 (k : Int)]) ∧ Below w.heap.size w w') : Calls Tryd.prog F A w (VerD w 0 0 f 0 0 k) :=
  h.mono fun _ _ ⟨he, hb⟩ => ⟨none, 0, he, Bytes.zero, hb⟩
theorem secO_ok {F : FuncId} {A : Array Value} {w : World} {n last : Nat} {max : Int} {V : Nat → Ver} (h : Calls Tryd.prog F A w fun e w' => ∃ v, e = .returned (.tuple #[.agg #[v, .int .u32 (last : Int), .int .i64 max], .nilIface]) ∧ GV w' w.heap.size v n V ∧ Below w.heap.size w w') : Calls Tryd.prog F A w (SecO w n last max V 0) :=
  h.mono fun _ _ ⟨_, he, hG, hb⟩ => by
    obtain ⟨o, c, rfl, _, _, hV⟩ := hG.vers
    exact ⟨o, c, _, he, ErrV.nil, hV, hb⟩
theorem secD_ok {F : FuncId} {A : Array Value} {w : World} {n last : Nat} {max : Int} {V : Nat → Ver} (h : Calls Tryd.prog F A w fun e w' => ∃ v, e = .returned (.tuple #[.agg #[v, .int .u32 (last : Int), .int .i64 max], .int .i64 0]) ∧ RGV w' w.heap.size v n V ∧ Below w.heap.size w w') : Calls Tryd.prog F A w (SecD w n last max V 0) :=
  h.mono fun _ _ ⟨_, he, hG, hb⟩ => by
    obtain ⟨o, c, rfl, _, _, hV⟩ := hG.vers
    exact ⟨o, c, he, hV, hb⟩

def V00 : Nat → Ver := fun _ => ⟨0, 0, fun _ => 0, 0, 0⟩

/-- Put, side by side. -/
theorem put_pair (n last : Nat) (max : Int) (V : Nat → Ver) (dl : Nat) (df : Nat → Nat) (cas : Int) (now : Nat) (hn : n ≤ maxLen) (hl : last < 4294967296) (hm : ∀ i, i < n → (V i).n < 4294967296) (hcm : cas ≤ 9223372036854775807) :
    ∃ (n' last' : Nat) (max' : Int) (V' : Nat → Ver) (k : Nat), n' ≤ maxLen ∧
      (∀ oa cp od dc w, Vers w oa n V → n ≤ cp → Bytes w od dl df → (od = none → dl = 0) → Calls Tryd.prog 43 #[.agg #[.slice oa n cp, .int .u32 (last : Int), .int .i64 max], .slice od dl dc, .int .i64 cas, .int .u64 (now : Int)] w (SecO w n' last' max' V' k)) ∧
      (∀ oa cp od dc w, Vers w oa n V → n ≤ cp → (oa = none → cp = 0) → Bytes w od dl df → (od = none → dl = 0) → dl ≤ dc → dc ≤ maxLen → Calls Tryd.prog 44 #[.agg #[.slice oa n cp, .int .u32 (last : Int), .int .i64 max], .slice od dl dc, .int .i64 cas, .int .u64 (now : Int)] w (SecD w n' last' max' V' k)) := by
  by_cases h : SecOk n last max V
  · by_cases hd : dl ≤ 100
    · by_cases hc : 0 ≤ cas ∧ cas ≠ (last : Int)
      · exact ⟨0, 0, 0, V00, 20, Nat.zero_le _, fun oa cp od dc w hV _ _ _ => secO_err (by decide) (put_ver oa n cp last max V w hn hl hV od dl dc df cas now h hd hc.1 hcm hc.2), fun oa cp od dc w hV _ _ _ _ _ _ => secD_err (rput_version oa n cp last max V w hn hl hV hm od dl dc cas now h hd hc.1 hc.2)⟩
      · have hc' : cas < 0 ∨ cas = (last : Int) := by omega
        by_cases hL : last = 4294967295
        · rcases hc' with hc' | hc'
          · exact ⟨0, 0, 0, V00, 19, Nat.zero_le _, fun oa cp od dc w hV _ _ _ => secO_err (by decide) (put_over_n oa n cp last max V w hn hl hV od dl dc df cas now h hd hc' hL), fun oa cp od dc w hV _ _ _ _ _ _ => secD_err (rput_overn oa n cp last max V w hn hl hV hm od dl dc cas now h hd hc' hL)⟩
          · exact ⟨0, 0, 0, V00, 19, Nat.zero_le _, fun oa cp od dc w hV _ _ _ => secO_err (by decide) (put_over_c oa n cp last max V w hn hl hV od dl dc df cas now h hd hc' hL), fun oa cp od dc w hV _ _ _ _ _ _ => secD_err (rput_overc oa n cp last max V w hn hl hV hm od dl dc cas now h hd hc' hL)⟩
        · have hl' : last < 4294967295 := by omega
          refine ⟨putN n max, last + 1, max, putV V (fromN n max) (putN n max - 1) ⟨last + 1, dl, df, now, 0⟩, 0, ?_, fun oa cp od dc w hV hcp hB hno => secO_ok (put_ok oa n cp last max V w hn hl' hV hcp od dl dc df cas now h hd hc' hB hno), fun oa cp od dc w hV hcp hz hB hno hdc hdm => secD_ok (rput_ok oa n cp last max V w hn hl' hV hm hcp hz od dl dc df cas now h hd hc' hB hno hdc hdm)⟩
          have := (put_sec (dl := dl) (df := df) (now := now) h hd).1
          have h2 := this.2.1
          have h3 := this.2.2.1
          unfold maxLen; omega
    · have hd' : 100 < dl := by omega
      exact ⟨0, 0, 0, V00, 1, Nat.zero_le _, fun oa cp od dc w hV _ _ _ => secO_err (by decide) (put_long oa n cp last max V w hn hl hV od dl dc df cas now h hd'), fun oa cp od dc w hV _ _ _ _ _ _ => secD_err (rput_big oa n cp last max V w hn hl hV hm od dl dc cas now h hd')⟩
  · exact ⟨0, 0, 0, V00, 1, Nat.zero_le _, fun oa cp od dc w hV _ _ _ => secO_err (by decide) (put_bad oa n cp last max V w hn hl hV od dl dc df cas now h), fun oa cp od dc w hV _ _ _ _ _ _ => secD_err (rput_bad oa n cp last max V w hn hl hV hm od dl dc cas now h)⟩

/-- Where a version is, or that it is not. -/
theorem seek_or (n last q : Nat) (V : Nat → Ver) : (∃ i, i < n ∧ (V i).n = seek last q) ∨ (∀ i, i < n → (V i).n ≠ seek last q) := by
  by_cases h : ∃ i, i < n ∧ (V i).n = seek last q
  · exact .inl h
  · exact .inr fun i hi he => h ⟨i, hi, he⟩

/-- Get, side by side. -/
theorem get_pair (n last : Nat) (max : Int) (V : Nat → Ver) (q : Nat) (hn : n ≤ maxLen) (hl : last < 4294967296) (hm : ∀ i, i < n → (V i).n < 4294967296) :
    ∃ (m len : Nat) (f : Nat → Nat) (t : Nat) (st : Int) (k : Nat),
      (∀ oa cp w, Vers w oa n V → Calls Tryd.prog 45 #[.agg #[.slice oa n cp, .int .u32 (last : Int), .int .i64 max], .int .u32 (q : Int)] w (VerO w m len f t st k)) ∧
      (∀ oa cp w, Vers w oa n V → Calls Tryd.prog 46 #[.agg #[.slice oa n cp, .int .u32 (last : Int), .int .i64 max], .int .u32 (q : Int)] w (VerD w m len f t st k)) := by
  by_cases h : SecOk n last max V
  · rcases seek_or n last q V with ⟨i, hi, he⟩ | hno
    · by_cases hst : (V i).st = 0
      · exact ⟨(V i).n, (V i).len, (V i).f, (V i).t, 0, 0, fun oa cp w hV => (get_ok oa n cp last max V w hn hl hV q i h hi he hst).mono fun _ _ ⟨od, cap, h1, h2, _, h4⟩ => ⟨od, cap, _, h1, ErrV.nil, h2, h4⟩, fun oa cp w hV => (rget_ok oa n cp last max V w hn hl hV hm q i h hi he hst).mono fun _ _ ⟨od, cap, h1, h2, h4⟩ => ⟨od, cap, h1, h2, h4⟩⟩
      · exact ⟨0, 0, fun _ => 0, 0, 0, 21, fun oa cp w hV => verO_err (by decide) (get_gone oa n cp last max V w hn hl hV q i h hi he hst), fun oa cp w hV => verD_err (rget_gone oa n cp last max V w hn hl hV hm q i h hi he hst)⟩
    · exact ⟨0, 0, fun _ => 0, 0, 0, 5, fun oa cp w hV => verO_err (by decide) (get_none oa n cp last max V w hn hl hV q h hno), fun oa cp w hV => verD_err (rget_none oa n cp last max V w hn hl hV hm q h hno)⟩
  · exact ⟨0, 0, fun _ => 0, 0, 0, 1, fun oa cp w hV => verO_err (by decide) (get_bad oa n cp last max V w hn hl hV q h), fun oa cp w hV => verD_err (rget_bad oa n cp last max V w hn hl hV hm q h)⟩

/-- engine.Delete, side by side. -/
theorem delete_pair (n last : Nat) (max : Int) (V : Nat → Ver) (q : Nat) (hn : n ≤ maxLen) (hl : last < 4294967296) (hm : ∀ i, i < n → (V i).n < 4294967296) :
    ∃ (n' last' : Nat) (max' : Int) (V' : Nat → Ver) (k : Nat), n' ≤ maxLen ∧
      (∀ oa cp w, Vers w oa n V → Calls Tryd.prog 47 #[.agg #[.slice oa n cp, .int .u32 (last : Int), .int .i64 max], .int .u32 (q : Int)] w (SecO w n' last' max' V' k)) ∧
      (∀ oa cp w, Vers w oa n V → Calls Tryd.prog 48 #[.agg #[.slice oa n cp, .int .u32 (last : Int), .int .i64 max], .int .u32 (q : Int), .int .i64 1] w (SecD w n' last' max' V' k)) := by
  by_cases h : SecOk n last max V
  · rcases seek_or n last q V with ⟨i, hi, he⟩ | hno
    · by_cases hst : (V i).st = 2
      · exact ⟨0, 0, 0, V00, 21, Nat.zero_le _, fun oa cp w hV => secO_err (by decide) (delete_gone oa n cp last max V w hn hl hV q i h hi he hst), fun oa cp w hV => secD_err (rset_gone1 oa n cp last max V w hn hl hV hm q i h hi he hst)⟩
      · exact ⟨n, last, max, setV V i 1, 0, hn, fun oa cp w hV => secO_ok (delete_ok oa n cp last max V w hn hl hV q i h hi he hst), fun oa cp w hV => secD_ok (rset_ok1 oa n cp last max V w hn hl hV hm q i h hi he hst)⟩
    · exact ⟨0, 0, 0, V00, 5, Nat.zero_le _, fun oa cp w hV => secO_err (by decide) (delete_miss oa n cp last max V w hn hl hV q h hno), fun oa cp w hV => secD_err (rset_none1 oa n cp last max V w hn hl hV hm q h hno)⟩
  · exact ⟨0, 0, 0, V00, 1, Nat.zero_le _, fun oa cp w hV => secO_err (by decide) (delete_bad oa n cp last max V w hn hl hV q h), fun oa cp w hV => secD_err (rset_bad1 oa n cp last max V w hn hl hV hm q h)⟩

/-- engine.Undelete, side by side. -/
theorem undelete_pair (n last : Nat) (max : Int) (V : Nat → Ver) (q : Nat) (hn : n ≤ maxLen) (hl : last < 4294967296) (hm : ∀ i, i < n → (V i).n < 4294967296) :
    ∃ (n' last' : Nat) (max' : Int) (V' : Nat → Ver) (k : Nat), n' ≤ maxLen ∧
      (∀ oa cp w, Vers w oa n V → Calls Tryd.prog 49 #[.agg #[.slice oa n cp, .int .u32 (last : Int), .int .i64 max], .int .u32 (q : Int)] w (SecO w n' last' max' V' k)) ∧
      (∀ oa cp w, Vers w oa n V → Calls Tryd.prog 48 #[.agg #[.slice oa n cp, .int .u32 (last : Int), .int .i64 max], .int .u32 (q : Int), .int .i64 0] w (SecD w n' last' max' V' k)) := by
  by_cases h : SecOk n last max V
  · rcases seek_or n last q V with ⟨i, hi, he⟩ | hno
    · by_cases hst : (V i).st = 2
      · exact ⟨0, 0, 0, V00, 21, Nat.zero_le _, fun oa cp w hV => secO_err (by decide) (undelete_gone oa n cp last max V w hn hl hV q i h hi he hst), fun oa cp w hV => secD_err (rset_gone0 oa n cp last max V w hn hl hV hm q i h hi he hst)⟩
      · exact ⟨n, last, max, setV V i 0, 0, hn, fun oa cp w hV => secO_ok (undelete_ok oa n cp last max V w hn hl hV q i h hi he hst), fun oa cp w hV => secD_ok (rset_ok0 oa n cp last max V w hn hl hV hm q i h hi he hst)⟩
    · exact ⟨0, 0, 0, V00, 5, Nat.zero_le _, fun oa cp w hV => secO_err (by decide) (undelete_miss oa n cp last max V w hn hl hV q h hno), fun oa cp w hV => secD_err (rset_none0 oa n cp last max V w hn hl hV hm q h hno)⟩
  · exact ⟨0, 0, 0, V00, 1, Nat.zero_le _, fun oa cp w hV => secO_err (by decide) (undelete_bad oa n cp last max V w hn hl hV q h), fun oa cp w hV => secD_err (rset_bad0 oa n cp last max V w hn hl hV hm q h)⟩

/-- Destroy, side by side. -/
theorem destroy_pair (n last : Nat) (max : Int) (V : Nat → Ver) (q : Nat) (hn : n ≤ maxLen) (hl : last < 4294967296) (hm : ∀ i, i < n → (V i).n < 4294967296) :
    ∃ (n' last' : Nat) (max' : Int) (V' : Nat → Ver) (k : Nat), n' ≤ maxLen ∧
      (∀ oa cp w, Vers w oa n V → Calls Tryd.prog 50 #[.agg #[.slice oa n cp, .int .u32 (last : Int), .int .i64 max], .int .u32 (q : Int)] w (SecO w n' last' max' V' k)) ∧
      (∀ oa cp w, Vers w oa n V → Calls Tryd.prog 48 #[.agg #[.slice oa n cp, .int .u32 (last : Int), .int .i64 max], .int .u32 (q : Int), .int .i64 2] w (SecD w n' last' max' V' k)) := by
  by_cases h : SecOk n last max V
  · rcases seek_or n last q V with ⟨i, hi, he⟩ | hno
    · refine ⟨n, last, max, cutV (setV V i 2) i, 0, hn, fun oa cp w hV => secO_ok (destroy_ok oa n cp last max V w hn hl hV q i h hi he), fun oa cp w hV => ?_⟩
      by_cases hst : (V i).st = 2
      · exact secD_ok (rset_ok2g oa n cp last max V w hn hl hV hm q i h hi he hst)
      · exact secD_ok (rset_ok2n oa n cp last max V w hn hl hV hm q i h hi he hst)
    · exact ⟨0, 0, 0, V00, 5, Nat.zero_le _, fun oa cp w hV => secO_err (by decide) (destroy_miss oa n cp last max V w hn hl hV q h hno), fun oa cp w hV => secD_err (rset_none2 oa n cp last max V w hn hl hV hm q h hno)⟩
  · exact ⟨0, 0, 0, V00, 1, Nat.zero_le _, fun oa cp w hV => secO_err (by decide) (destroy_bad oa n cp last max V w hn hl hV q h), fun oa cp w hV => secD_err (rset_bad2 oa n cp last max V w hn hl hV hm q h)⟩
end Go.Proofs.YtkaddilgegimjaaDoor
