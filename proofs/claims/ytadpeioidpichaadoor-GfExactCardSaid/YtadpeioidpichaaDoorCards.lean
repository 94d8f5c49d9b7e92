/-
  DERIVED. GIVEN WITH THE SEED: THE CARDS: each row of YtadpeioidpichaaDoorRows.lean that lists a variable, with what it lists TIED to the program's text (the seventh form; the later family's looks); each row that meets fmt, with fmt's text TOLD by the authors' own Lean function (tested against real Go, not proved from fmt's source: count such statements apart). THE CARD IS WHAT COUNTS. Prove the row's statement (the work); the ties are given (YtadpeioidpichaaDoorTie.lean); close each card by the builder's one call (the guide's Derived/Test/ToyasCard.lean, 'card_holds'). Laid BY PROGRAM, IN A SANDBOX (cutbox-door.mjs). By AI agents, Wed Nov 11 2026. No macro, syntax, notation, axiom, sorry.
-/
import Derived.Test.YtadpeioidpichaaDoorRows
import GoSem.ClaimSeven
namespace Go.Proofs.YtadpeioidpichaaDoor
namespace Rows

/-- THE TIED CARD OF 'bursarylaw01.GfExact'. -/
def gfExactCard : Claim7 := { stood := { row := gfExactRow, standIns := [], harness := (true, "b6085e05f1f7da6fd5aa88dd064e2faaa25064bd7220ce233a4ea3e826250714"), looks := true }, kinds := [], alts := [], laidByText := true, laidKinds := [.handle], laidTests := true, laidLooks := .later }
def GfExactCardSaid : Prop := Claim7.holds Tryd.pinned (.plain (OpenSpec.ofChange gfExactSpec)) gfExactCard

/-- THE TIED CARD OF 'bursarylaw01.GfPowers'. -/
def gfPowersCard : Claim7 := { stood := { row := gfPowersRow, standIns := [], harness := (true, "b6085e05f1f7da6fd5aa88dd064e2faaa25064bd7220ce233a4ea3e826250714"), looks := true }, kinds := [], alts := [], laidByText := true, laidKinds := [.handle], laidTests := true, laidLooks := .later }
def GfPowersCardSaid : Prop := Claim7.holds Tryd.pinned (.plain (OpenSpec.ofChange gfPowersSpec)) gfPowersCard

/-- THE SECOND FORM's CARD OF 'bursarylaw01.GfExact'. -/
def gfExactUptoCard : Claim7 := { stood := { row := gfExactUptoRow, standIns := [], harness := (true, "b6085e05f1f7da6fd5aa88dd064e2faaa25064bd7220ce233a4ea3e826250714"), looks := true }, kinds := [], alts := [], laidByText := true, laidKinds := [.handle], laidTests := true, laidLooks := .later }
def GfExactUptoCardSaid : Prop := Claim7.holds Tryd.pinned (.plain (OpenSpec.upto gfExactSpec)) gfExactUptoCard

/-- THE SECOND FORM's CARD OF 'bursarylaw01.GfPowers'. -/
def gfPowersUptoCard : Claim7 := { stood := { row := gfPowersUptoRow, standIns := [], harness := (true, "b6085e05f1f7da6fd5aa88dd064e2faaa25064bd7220ce233a4ea3e826250714"), looks := true }, kinds := [], alts := [], laidByText := true, laidKinds := [.handle], laidTests := true, laidLooks := .later }
def GfPowersUptoCardSaid : Prop := Claim7.holds Tryd.pinned (.plain (OpenSpec.upto gfPowersSpec)) gfPowersUptoCard
end Rows
end Go.Proofs.YtadpeioidpichaaDoor
