/-
  DERIVED. GIVEN WITH THE SEED: THE CARDS: each row of YtloajfbehejehaaDoorRows.lean that lists a variable, with what it lists TIED to the program's text (the seventh form; the later family's looks); each row that meets fmt, with fmt's text TOLD by the authors' own Lean function (tested against real Go, not proved from fmt's source: count such statements apart). THE CARD IS WHAT COUNTS. Prove the row's statement (the work); the ties are given (YtloajfbehejehaaDoorTie.lean); close each card by the builder's one call (the guide's Derived/Test/ToyasCard.lean, 'card_holds'). Laid BY PROGRAM, IN A SANDBOX (cutbox-door.mjs). By AI agents, Wed Nov 11 2026. No macro, syntax, notation, axiom, sorry.
-/
import Derived.Test.YtloajfbehejehaaDoorRows
import GoSem.ClaimSeven
namespace Go.Proofs.YtloajfbehejehaaDoor
namespace Rows

/-- THE TIED CARD OF 'bursarylaw19.KeyringKeeps'. -/
def keyringKeepsCard : Claim7 := { stood := { row := keyringKeepsRow, standIns := [], harness := (true, "85e82ef211fafa974be6b2765443be04247003efae9cc1e73dbfe05fae2b0bdf"), looks := true }, kinds := [], alts := [], laidByText := true, laidKinds := [.data, .data, .handle], laidTests := true, laidLooks := .later }
def KeyringKeepsCardSaid : Prop := Claim7.holds Tryd.pinned (.plain (OpenSpec.ofChange keyringKeepsSpec)) keyringKeepsCard

/-- THE TIED CARD OF 'bursarylaw19.KeyringCuts'. -/
def keyringCutsCard : Claim7 := { stood := { row := keyringCutsRow, standIns := [], harness := (true, "85e82ef211fafa974be6b2765443be04247003efae9cc1e73dbfe05fae2b0bdf"), looks := true }, kinds := [], alts := [], laidByText := true, laidKinds := [.data, .data, .handle], laidTests := true, laidLooks := .later }
def KeyringCutsCardSaid : Prop := Claim7.holds Tryd.pinned (.plain (OpenSpec.ofChange keyringCutsSpec)) keyringCutsCard

/-- THE TIED CARD OF 'bursarylaw19.KeyringSteps'. -/
def keyringStepsCard : Claim7 := { stood := { row := keyringStepsRow, standIns := [], harness := (true, "85e82ef211fafa974be6b2765443be04247003efae9cc1e73dbfe05fae2b0bdf"), looks := true }, kinds := [], alts := [], laidByText := true, laidKinds := [.data, .data, .handle], laidTests := true, laidLooks := .later }
def KeyringStepsCardSaid : Prop := Claim7.holds Tryd.pinned (.plain (OpenSpec.ofChange keyringStepsSpec)) keyringStepsCard

/-- THE SECOND FORM's CARD OF 'bursarylaw19.KeyringKeeps'. -/
def keyringKeepsUptoCard : Claim7 := { stood := { row := keyringKeepsUptoRow, standIns := [], harness := (true, "85e82ef211fafa974be6b2765443be04247003efae9cc1e73dbfe05fae2b0bdf"), looks := true }, kinds := [], alts := [], laidByText := true, laidKinds := [.data, .data, .handle], laidTests := true, laidLooks := .later }
def KeyringKeepsUptoCardSaid : Prop := Claim7.holds Tryd.pinned (.plain (OpenSpec.upto keyringKeepsSpec)) keyringKeepsUptoCard

/-- THE SECOND FORM's CARD OF 'bursarylaw19.KeyringCuts'. -/
def keyringCutsUptoCard : Claim7 := { stood := { row := keyringCutsUptoRow, standIns := [], harness := (true, "85e82ef211fafa974be6b2765443be04247003efae9cc1e73dbfe05fae2b0bdf"), looks := true }, kinds := [], alts := [], laidByText := true, laidKinds := [.data, .data, .handle], laidTests := true, laidLooks := .later }
def KeyringCutsUptoCardSaid : Prop := Claim7.holds Tryd.pinned (.plain (OpenSpec.upto keyringCutsSpec)) keyringCutsUptoCard

/-- THE SECOND FORM's CARD OF 'bursarylaw19.KeyringSteps'. -/
def keyringStepsUptoCard : Claim7 := { stood := { row := keyringStepsUptoRow, standIns := [], harness := (true, "85e82ef211fafa974be6b2765443be04247003efae9cc1e73dbfe05fae2b0bdf"), looks := true }, kinds := [], alts := [], laidByText := true, laidKinds := [.data, .data, .handle], laidTests := true, laidLooks := .later }
def KeyringStepsUptoCardSaid : Prop := Claim7.holds Tryd.pinned (.plain (OpenSpec.upto keyringStepsSpec)) keyringStepsUptoCard
end Rows
end Go.Proofs.YtloajfbehejehaaDoor
