/-
  DERIVED. GIVEN WITH THE SEED: THE CARDS: each row of YtcpcaekkdgogmaaDoorRows.lean that lists a variable, with what it lists TIED to the program's text (the seventh form; the later family's looks); each row that meets fmt, with fmt's text TOLD by the authors' own Lean function (tested against real Go, not proved from fmt's source: count such statements apart). THE CARD IS WHAT COUNTS. Prove the row's statement (the work); the ties are given (YtcpcaekkdgogmaaDoorTie.lean); close each card by the builder's one call (the guide's Derived/Test/ToyasCard.lean, 'card_holds'). Laid BY PROGRAM, IN A SANDBOX (cutbox-door.mjs). By AI agents, Wed Nov 11 2026. No macro, syntax, notation, axiom, sorry.
-/
import Derived.Test.YtcpcaekkdgogmaaDoorRows
import GoSem.ClaimSeven
namespace Go.Proofs.YtcpcaekkdgogmaaDoor
namespace Rows

/-- THE TIED CARD OF 'bursarylaw09.AesExact'. -/
def aesExactCard : Claim7 := { stood := { row := aesExactRow, standIns := [], harness := (true, "802ebdd872b739748270b70b9d9faa8b1b2aaa999d96ac237b644b23129976bb"), looks := true }, kinds := [], alts := [], laidByText := true, laidKinds := [.handle], laidTests := true, laidLooks := .later }
def AesExactCardSaid : Prop := Claim7.holds Tryd.pinned (.plain (OpenSpec.ofChange aesExactSpec)) aesExactCard

/-- THE SECOND FORM's CARD OF 'bursarylaw09.AesExact'. -/
def aesExactUptoCard : Claim7 := { stood := { row := aesExactUptoRow, standIns := [], harness := (true, "802ebdd872b739748270b70b9d9faa8b1b2aaa999d96ac237b644b23129976bb"), looks := true }, kinds := [], alts := [], laidByText := true, laidKinds := [.handle], laidTests := true, laidLooks := .later }
def AesExactUptoCardSaid : Prop := Claim7.holds Tryd.pinned (.plain (OpenSpec.upto aesExactSpec)) aesExactUptoCard
end Rows
end Go.Proofs.YtcpcaekkdgogmaaDoor
