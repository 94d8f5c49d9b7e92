/- All that can be asked, as the document lists it; and the law of names. -/
import Derived.Test.YtmabhjifldafaaaDoorRq0
namespace Go.Proofs.YtmabhjifldafaaaDoor
set_option linter.unusedVariables false
set_option linter.unusedSimpArgs false
open Go.RowKit

def rowA (k : Nat) : List Value := [.string (nmF k), .int .i64 (arF k : Nat), .bool (opF k), .int .i64 (scF k)]
def allC : List Value := (List.range 30).flatMap rowA
/-- The list lies in block g. -/
def AL (w : World) (g : Nat) : Prop := ∀ k, k < 30 → w.cell? ⟨g, 4 * k, none⟩ = some (.string (nmF k)) ∧ w.cell? ⟨g, 4 * k + 1, none⟩ = some (.int .i64 (arF k : Nat)) ∧ w.cell? ⟨g, 4 * k + 2, none⟩ = some (.bool (opF k)) ∧ w.cell? ⟨g, 4 * k + 3, none⟩ = some (.int .i64 (scF k))
theorem AL.later {w w' : World} {g : Nat} (h : AL w g) (hb : Below w.heap.size w w') : AL w' g := fun k hk => by
  obtain ⟨h1, h2, h3, h4⟩ := h k hk
  exact ⟨cell_below hb h1, cell_below hb h2, cell_below hb h3, cell_below hb h4⟩
theorem allC_get : ∀ k, k < 30 → allC[4 * k]? = some (.string (nmF k)) ∧ allC[4 * k + 1]? = some (.int .i64 (arF k : Nat)) ∧ allC[4 * k + 2]? = some (.bool (opF k)) ∧ allC[4 * k + 3]? = some (.int .i64 (scF k)) := by
  intro k hk
  have : k = 0 ∨ (1 ≤ k ∧ k < 30) := by omega
  rcases this with rfl | ⟨h1, h2⟩
  · exact ⟨rfl, rfl, rfl, rfl⟩
  · exact thirty (p := fun k => allC[4 * k]? = some (.string (nmF k)) ∧ allC[4 * k + 1]? = some (.int .i64 (arF k : Nat)) ∧ allC[4 * k + 2]? = some (.bool (opF k)) ∧ allC[4 * k + 3]? = some (.int .i64 (scF k))) k h1 h2 ⟨rfl, rfl, rfl, rfl⟩ ⟨rfl, rfl, rfl, rfl⟩ ⟨rfl, rfl, rfl, rfl⟩ ⟨rfl, rfl, rfl, rfl⟩ ⟨rfl, rfl, rfl, rfl⟩ ⟨rfl, rfl, rfl, rfl⟩ ⟨rfl, rfl, rfl, rfl⟩ ⟨rfl, rfl, rfl, rfl⟩ ⟨rfl, rfl, rfl, rfl⟩ ⟨rfl, rfl, rfl, rfl⟩ ⟨rfl, rfl, rfl, rfl⟩ ⟨rfl, rfl, rfl, rfl⟩ ⟨rfl, rfl, rfl, rfl⟩ ⟨rfl, rfl, rfl, rfl⟩ ⟨rfl, rfl, rfl, rfl⟩ ⟨rfl, rfl, rfl, rfl⟩ ⟨rfl, rfl, rfl, rfl⟩ ⟨rfl, rfl, rfl, rfl⟩ ⟨rfl, rfl, rfl, rfl⟩ ⟨rfl, rfl, rfl, rfl⟩ ⟨rfl, rfl, rfl, rfl⟩ ⟨rfl, rfl, rfl, rfl⟩ ⟨rfl, rfl, rfl, rfl⟩ ⟨rfl, rfl, rfl, rfl⟩ ⟨rfl, rfl, rfl, rfl⟩ ⟨rfl, rfl, rfl, rfl⟩ ⟨rfl, rfl, rfl, rfl⟩ ⟨rfl, rfl, rfl, rfl⟩ ⟨rfl, rfl, rfl, rfl⟩
theorem al_new (w : World) : AL (w.alloc (.cells allC.toArray 25)) w.heap.size := fun k hk => by
  obtain ⟨h1, h2, h3, h4⟩ := allC_get k hk
  refine ⟨?_, ?_, ?_, ?_⟩ <;> rw [Blk.cell (Blk.new _ _ _)] <;> simpa using by assumption
set_option maxRecDepth 100000 in
set_option maxHeartbeats 8000000 in
theorem all_any (w : World) :
    Calls Tryd.prog 14 #[] w fun e w' => e = .returned (.slice (some ⟨w.heap.size, 0, none⟩) 30 30) ∧ AL w' w.heap.size ∧ Below w.heap.size w w' := by
  have hf : Hid (allC.toArray = #[.string ⟨#[]⟩, .int .i64 0, .bool false, .int .i64 (-1), .string ⟨#[105, 110, 105, 116]⟩, .int .i64 2, .bool true, .int .i64 (-1), .string ⟨#[117, 110, 115, 101, 97, 108]⟩, .int .i64 1, .bool true, .int .i64 (0), .string ⟨#[115, 101, 97, 108]⟩, .int .i64 0, .bool false, .int .i64 (-1), .string ⟨#[115, 116, 97, 116, 117, 115]⟩, .int .i64 0, .bool true, .int .i64 (-1), .string ⟨#[112, 117, 116]⟩, .int .i64 2, .bool false, .int .i64 (0), .string ⟨#[103, 101, 116]⟩, .int .i64 1, .bool false, .int .i64 (-1), .string ⟨#[100, 101, 108, 101, 116, 101]⟩, .int .i64 1, .bool false, .int .i64 (-1), .string ⟨#[117, 110, 100, 101, 108, 101, 116, 101]⟩, .int .i64 1, .bool false, .int .i64 (-1), .string ⟨#[100, 101, 115, 116, 114, 111, 121]⟩, .int .i64 1, .bool false, .int .i64 (-1), .string ⟨#[108, 105, 115, 116]⟩, .int .i64 0, .bool false, .int .i64 (-1), .string ⟨#[112, 111, 108, 105, 99, 121, 45, 112, 117, 116]⟩, .int .i64 1, .bool false, .int .i64 (-1), .string ⟨#[112, 111, 108, 105, 99, 121, 45, 103, 101, 116]⟩, .int .i64 0, .bool false, .int .i64 (-1), .string ⟨#[112, 111, 108, 105, 99, 121, 45, 100, 101, 108]⟩, .int .i64 0, .bool false, .int .i64 (-1), .string ⟨#[116, 111, 107, 101, 110, 45, 99, 114, 101, 97, 116, 101]⟩, .int .i64 3, .bool false, .int .i64 (-1), .string ⟨#[116, 111, 107, 101, 110, 45, 114, 101, 110, 101, 119]⟩, .int .i64 1, .bool false, .int .i64 (-1), .string ⟨#[116, 111, 107, 101, 110, 45, 114, 101, 118, 111, 107, 101]⟩, .int .i64 1, .bool false, .int .i64 (-1), .string ⟨#[116, 111, 107, 101, 110, 45, 115, 101, 108, 102]⟩, .int .i64 0, .bool false, .int .i64 (-1), .string ⟨#[108, 101, 97, 115, 101, 45, 105, 115, 115, 117, 101]⟩, .int .i64 1, .bool false, .int .i64 (-1), .string ⟨#[108, 101, 97, 115, 101, 45, 114, 101, 110, 101, 119]⟩, .int .i64 2, .bool false, .int .i64 (-1), .string ⟨#[108, 101, 97, 115, 101, 45, 114, 101, 118, 111, 107, 101]⟩, .int .i64 1, .bool false, .int .i64 (-1), .string ⟨#[108, 101, 97, 115, 101, 45, 112, 114, 101, 102, 105, 120]⟩, .int .i64 0, .bool false, .int .i64 (-1), .string ⟨#[114, 111, 116, 97, 116, 101]⟩, .int .i64 0, .bool false, .int .i64 (-1), .string ⟨#[114, 101, 107, 101, 121, 45, 115, 116, 97, 114, 116]⟩, .int .i64 2, .bool false, .int .i64 (-1), .string ⟨#[114, 101, 107, 101, 121, 45, 115, 104, 97, 114, 101]⟩, .int .i64 2, .bool false, .int .i64 (1), .string ⟨#[114, 101, 107, 101, 121, 45, 99, 97, 110, 99, 101, 108]⟩, .int .i64 0, .bool false, .int .i64 (-1), .string ⟨#[114, 111, 111, 116, 45, 115, 116, 97, 114, 116]⟩, .int .i64 0, .bool true, .int .i64 (-1), .string ⟨#[114, 111, 111, 116, 45, 115, 104, 97, 114, 101]⟩, .int .i64 2, .bool true, .int .i64 (1), .string ⟨#[114, 111, 111, 116, 45, 99, 97, 110, 99, 101, 108]⟩, .int .i64 0, .bool true, .int .i64 (-1), .string ⟨#[97, 117, 100, 105, 116, 45, 104, 101, 97, 100]⟩, .int .i64 0, .bool false, .int .i64 (-1)]) := Lib.hid rfl
  go_enter Tryd.func14, Tryd.ntmps14
  go_wp2_with fail
  go_ret
  refine ⟨rfl, ?_, (Below.refl _ _).alloc (Nat.le_refl _) _⟩
  have h := al_new w
  rw [hf.out] at h
  exact h
end Go.Proofs.YtmabhjifldafaaaDoor
