/- The program's answers and the document's, side by side. -/
import Derived.Test.YtmhofofidmbgfaaDoorRc5
import Derived.Test.YtmhofofidmbgfaaDoorScA
namespace Go.Proofs.YtmhofofidmbgfaaDoor
set_option linter.unusedVariables false
set_option linter.unusedSimpArgs false
open Go.RowKit

/-- A row that reads as a string, from a world on. -/
def CVr (w : World) (o : Option Addr) (l c : Nat) (S : ByteArray) : Prop := ∀ w', Below w.heap.size w w' → (convert 22 9 (.slice o l c)).run Tryd.prog w' = .ok (.string S) w'
theorem CVr.of {w : World} {o : Option Addr} {l c : Nat} {f : Nat → Nat} (h : Bytes w o l f) (hno : o = none → l = 0) : CVr w o l c (strF l f) := fun _ hb => conv_any (h.later hb) hno
theorem CVr.later {w w' : World} {o : Option Addr} {l c : Nat} {S : ByteArray} (h : CVr w o l c S) (hb : Below w.heap.size w w') : CVr w' o l c S := fun w2 h2 => h w2 (hb.trans (h2.mono hb.size))
theorem bytes_none (w : World) (f : Nat → Nat) : Bytes w none 0 f := fun k hk => by omega

theorem enc_side (ix gen n cap : Nat) (oa : Option Addr) (f : Nat → Nat) (hix : ix < 256) (hgen : gen < 4294967296) (hn : n < 9000000000000000000) :
    ∃ (E : Nat) (S U : ByteArray) (ev : Value),
      (∀ w, Bytes w oa n f → Calls Tryd.prog 28 #[.agg #[.int .u8 (ix : Int), .int .u32 (gen : Int), .slice oa n cap]] w fun e w' => ∃ o l c, e = .returned (.tuple #[.slice o l c, ev]) ∧ CVr w' o l c S ∧ Below w.heap.size w w') ∧
      (∀ w, Bytes w oa n f → Calls Tryd.prog 29 #[.agg #[.int .u8 (ix : Int), .int .u32 (gen : Int), .slice oa n cap]] w fun e w' => ∃ o l c, e = .returned (.tuple #[.slice o l c, .int .i64 (E : Int)]) ∧ CVr w' o l c S ∧ (∀ w2, Below w'.heap.size w' w2 → Calls Tryd.prog 36 #[.slice o l c] w2 fun e w3 => e = .returned (.string U) ∧ Below w2.heap.size w2 w3) ∧ Below w.heap.size w w') ∧
      (∀ w, Bytes w oa n f → Calls Tryd.prog 30 #[.agg #[.int .u8 (ix : Int), .int .u32 (gen : Int), .slice oa n cap]] w fun e w' => e = .returned (.tuple #[.string U, ev]) ∧ Below w.heap.size w w') ∧
      (∀ w, Handle w → Calls Tryd.prog 35 #[ev] w fun e w' => e = .returned (.int .i64 (E : Int)) ∧ Below w.heap.size w w') := by
  by_cases hm : MayS ix n
  · have hn64 := hm.2.2
    refine ⟨0, strF (8 + n) (encF ix gen n f), txtS ix gen n f, .nilIface, fun w hB => ?_, fun w hB => ?_, fun w hB => text_any ix gen n cap oa f w hm hix hgen hB, fun w _ => num_nil04 w⟩
    · refine (enc_any ix gen n cap oa f w hm hix hgen hB).mono ?_
      rintro e w' ⟨g, c, rfl, _, _, _, h4, h5⟩
      exact ⟨_, _, _, rfl, .of h4 (fun e => by cases e), h5⟩
    · refine (renc_any ix gen n cap oa f w hm hix hgen hB).mono ?_
      rintro e w' ⟨g, c, rfl, _, h4, h5⟩
      exact ⟨_, _, _, rfl, .of h4 (fun e => by cases e), fun w2 h2 => rhx_any _ _ _ _ w2 (h4.later h2) (by omega), h5⟩
  · refine ⟨4, strF 0 f, strF (2 * 0) (hexF f), eN, fun w hB => ?_, fun w hB => ?_, fun w hB => text_bad ix gen n cap oa w hn hm, fun w hg => num_err04 4 w hg⟩
    · refine (enc_bad ix gen n cap oa w hn hm).mono ?_
      rintro e w' ⟨rfl, h5⟩
      exact ⟨_, _, _, rfl, .of (bytes_none _ f) (fun _ => rfl), h5⟩
    · refine (renc_bad ix gen n cap oa w hn hm).mono ?_
      rintro e w' ⟨rfl, h5⟩
      exact ⟨_, _, _, rfl, .of (bytes_none _ f) (fun _ => rfl), fun w2 h2 => rhx_any 0 0 none f w2 (bytes_none _ f) (by decide), h5⟩

theorem dec_side (m cm : Nat) (ob : Option Addr) (F : Nat → Nat) (hmc : m ≤ cm) (hm : m < 9000000000000000000) :
    ∃ (E x g : Nat) (S : ByteArray) (ev : Value),
      (∀ w, Bytes w ob m F → Calls Tryd.prog 31 #[.slice ob m cm] w fun e w' => ∃ o l c, e = .returned (.tuple #[.agg #[.int .u8 (x : Int), .int .u32 (g : Int), .slice o l c], ev]) ∧ CVr w' o l c S ∧ Below w.heap.size w w') ∧
      (∀ w, Bytes w ob m F → Calls Tryd.prog 32 #[.slice ob m cm] w fun e w' => ∃ o l c, e = .returned (.tuple #[.agg #[.int .u8 (x : Int), .int .u32 (g : Int), .slice o l c], .int .i64 (E : Int)]) ∧ CVr w' o l c S ∧ Below w.heap.size w w') ∧
      (∀ w, Handle w → Calls Tryd.prog 35 #[ev] w fun e w' => e = .returned (.int .i64 (E : Int)) ∧ Below w.heap.size w w') := by
  by_cases hE : IsEnc m F
  · refine ⟨0, F 6, genOf F, strF (m - 8) (fun k => F (8 + k)), .nilIface, fun w hB => ?_, fun w hB => ?_, fun w _ => num_nil04 w⟩
    · refine (dec_any m cm ob F w hB hmc hE).mono ?_
      rintro e w' ⟨g, c, rfl, _, _, _, h4, h5⟩
      exact ⟨_, _, _, rfl, .of h4 (fun e => by cases e), h5⟩
    · refine (rdec_any m cm ob F w hB hmc hE).mono ?_
      rintro e w' ⟨o, c, rfl, _, h4, h5, _, h6⟩
      exact ⟨_, _, _, rfl, .of h4 h5, h6⟩
  · refine ⟨4, 0, 0, strF 0 F, eN, fun w hB => ?_, fun w hB => ?_, fun w hg => num_err04 4 w hg⟩
    · refine (dec_bad m cm ob F w hm hB hE).mono ?_
      rintro e w' ⟨rfl, h5⟩
      exact ⟨_, _, _, rfl, .of (bytes_none _ F) (fun _ => rfl), h5⟩
    · refine (rdec_bad m cm ob F w hm hB hE).mono ?_
      rintro e w' ⟨rfl, h5⟩
      exact ⟨_, _, _, rfl, .of (bytes_none _ F) (fun _ => rfl), h5⟩

theorem parse_side (t : ByteArray) (ht : t.size < 1000000000) :
    ∃ (E x g : Nat) (S : ByteArray) (ev : Value),
      (∀ w, Calls Tryd.prog 33 #[.string t] w fun e w' => ∃ o l c, e = .returned (.tuple #[.agg #[.int .u8 (x : Int), .int .u32 (g : Int), .slice o l c], ev]) ∧ CVr w' o l c S ∧ Below w.heap.size w w') ∧
      (∀ w, Calls Tryd.prog 34 #[.string t] w fun e w' => ∃ o l c, e = .returned (.tuple #[.agg #[.int .u8 (x : Int), .int .u32 (g : Int), .slice o l c], .int .i64 (E : Int)]) ∧ CVr w' o l c S ∧ Below w.heap.size w w') ∧
      (∀ w, Handle w → Calls Tryd.prog 35 #[ev] w fun e w' => e = .returned (.int .i64 (E : Int)) ∧ Below w.heap.size w w') := by
  by_cases hE : PGood t
  · refine ⟨0, unhF t 6, genOf (unhF t), strF (t.size / 2 - 8) (fun k => unhF t (8 + k)), .nilIface, fun w => ?_, fun w => ?_, fun w _ => num_nil04 w⟩
    · refine (parse_any t w ht).mono ?_
      rintro e w' ⟨hb, ⟨_, g, c, rfl, _, _, _, h4⟩ | ⟨h, _⟩⟩
      · exact ⟨_, _, _, rfl, .of h4 (fun e => by cases e), hb⟩
      · exact absurd hE h
    · refine (rparse_any t w ht).mono ?_
      rintro e w' ⟨hb, ⟨_, o, c, rfl, h4, h5⟩ | ⟨h, _⟩⟩
      · exact ⟨_, _, _, rfl, .of h4 h5, hb⟩
      · exact absurd hE h
  · refine ⟨4, 0, 0, strF 0 (unhF t), eN, fun w => ?_, fun w => ?_, fun w hg => num_err04 4 w hg⟩
    · refine (parse_any t w ht).mono ?_
      rintro e w' ⟨hb, ⟨h, _⟩ | ⟨_, rfl⟩⟩
      · exact absurd h hE
      · exact ⟨_, _, _, rfl, .of (bytes_none _ _) (fun _ => rfl), hb⟩
    · refine (rparse_any t w ht).mono ?_
      rintro e w' ⟨hb, ⟨h, _⟩ | ⟨_, rfl⟩⟩
      · exact absurd h hE
      · exact ⟨_, _, _, rfl, .of (bytes_none _ _) (fun _ => rfl), hb⟩
end Go.Proofs.YtmhofofidmbgfaaDoor
