/-
  DERIVED. GIVEN WITH THE SEED: THE CARDS: each row of YtgiffaeckhhmpaaDoorRows.lean that lists a variable, with what it lists TIED to the program's text (the seventh form; the later family's looks); each row that meets fmt, with fmt's text TOLD by the authors' own Lean function (tested against real Go, not proved from fmt's source: count such statements apart). THE CARD IS WHAT COUNTS. Prove the row's statement (the work); the ties are given (YtgiffaeckhhmpaaDoorTie.lean); close each card by the builder's one call (the guide's Derived/Test/ToyasCard.lean, 'card_holds'). Laid BY PROGRAM, IN A SANDBOX (cutbox-door.mjs). By AI agents, Wed Nov 11 2026. No macro, syntax, notation, axiom, sorry.
-/
import Derived.Test.YtgiffaeckhhmpaaDoorRows
import GoSem.ClaimSeven
namespace Go.Proofs.YtgiffaeckhhmpaaDoor
namespace Rows

/-- THE TIED CARD OF 'bursarylaw23.ProgressWrong'. -/
def progressWrongCard : Claim7 := { stood := { row := progressWrongRow, standIns := [], harness := (true, "ba0ada0c48a9bc0f59f57e2b420ee89403b811b53485c6dd8f986e5bf2bbcda3"), looks := true }, kinds := [], alts := [], laidByText := true, laidKinds := [.handle], laidTests := true, laidLooks := .later }
def ProgressWrongCardSaid : Prop := Claim7.holds Tryd.pinned (.plain (OpenSpec.ofChange progressWrongSpec)) progressWrongCard

/-- THE TIED CARD OF 'bursarylaw23.ProgressOrder'. -/
def progressOrderCard : Claim7 := { stood := { row := progressOrderRow, standIns := [], harness := (true, "ba0ada0c48a9bc0f59f57e2b420ee89403b811b53485c6dd8f986e5bf2bbcda3"), looks := true }, kinds := [], alts := [], laidByText := true, laidKinds := [.handle], laidTests := true, laidLooks := .later }
def ProgressOrderCardSaid : Prop := Claim7.holds Tryd.pinned (.plain (OpenSpec.ofChange progressOrderSpec)) progressOrderCard

/-- THE TIED CARD OF 'bursarylaw23.ProgressSteps'. -/
def progressStepsCard : Claim7 := { stood := { row := progressStepsRow, standIns := [], harness := (true, "ba0ada0c48a9bc0f59f57e2b420ee89403b811b53485c6dd8f986e5bf2bbcda3"), looks := true }, kinds := [], alts := [], laidByText := true, laidKinds := [.handle], laidTests := true, laidLooks := .later }
def ProgressStepsCardSaid : Prop := Claim7.holds Tryd.pinned (.plain (OpenSpec.ofChange progressStepsSpec)) progressStepsCard

/-- THE SECOND FORM's CARD OF 'bursarylaw23.ProgressWrong'. -/
def progressWrongUptoCard : Claim7 := { stood := { row := progressWrongUptoRow, standIns := [], harness := (true, "ba0ada0c48a9bc0f59f57e2b420ee89403b811b53485c6dd8f986e5bf2bbcda3"), looks := true }, kinds := [], alts := [], laidByText := true, laidKinds := [.handle], laidTests := true, laidLooks := .later }
def ProgressWrongUptoCardSaid : Prop := Claim7.holds Tryd.pinned (.plain (OpenSpec.upto progressWrongSpec)) progressWrongUptoCard

/-- THE SECOND FORM's CARD OF 'bursarylaw23.ProgressOrder'. -/
def progressOrderUptoCard : Claim7 := { stood := { row := progressOrderUptoRow, standIns := [], harness := (true, "ba0ada0c48a9bc0f59f57e2b420ee89403b811b53485c6dd8f986e5bf2bbcda3"), looks := true }, kinds := [], alts := [], laidByText := true, laidKinds := [.handle], laidTests := true, laidLooks := .later }
def ProgressOrderUptoCardSaid : Prop := Claim7.holds Tryd.pinned (.plain (OpenSpec.upto progressOrderSpec)) progressOrderUptoCard

/-- THE SECOND FORM's CARD OF 'bursarylaw23.ProgressSteps'. -/
def progressStepsUptoCard : Claim7 := { stood := { row := progressStepsUptoRow, standIns := [], harness := (true, "ba0ada0c48a9bc0f59f57e2b420ee89403b811b53485c6dd8f986e5bf2bbcda3"), looks := true }, kinds := [], alts := [], laidByText := true, laidKinds := [.handle], laidTests := true, laidLooks := .later }
def ProgressStepsUptoCardSaid : Prop := Claim7.holds Tryd.pinned (.plain (OpenSpec.upto progressStepsSpec)) progressStepsUptoCard
end Rows
end Go.Proofs.YtgiffaeckhhmpaaDoor
