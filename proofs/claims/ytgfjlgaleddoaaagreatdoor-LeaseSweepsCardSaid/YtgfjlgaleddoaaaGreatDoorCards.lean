/-
  DERIVED. GIVEN WITH THE SEED: THE CARDS: each row of YtgfjlgaleddoaaaGreatDoorRows.lean that lists a variable, with what it lists TIED to the program's text (the seventh form; the later family's looks); each row that meets fmt, with fmt's text TOLD by the authors' own Lean function (tested against real Go, not proved from fmt's source: count such statements apart). THE CARD IS WHAT COUNTS. Prove the row's statement (the work); the ties are given (YtgfjlgaleddoaaaGreatDoorTie.lean); close each card by the builder's one call (the guide's Derived/Test/ToyasCard.lean, 'card_holds'). Laid BY PROGRAM, IN A SANDBOX (cutbox-door.mjs). By AI agents, Wed Nov 11 2026. No macro, syntax, notation, axiom, sorry.
-/
import Derived.Test.YtgfjlgaleddoaaaGreatDoorRows
import GoSem.ClaimSeven
namespace Go.Proofs.YtgfjlgaleddoaaaGreatDoor
namespace Rows

/-- THE TIED CARD OF 'bursarylaw29.LeaseForms'. -/
def leaseFormsCard : Claim7 := { stood := { row := leaseFormsRow, standIns := [], harness := (true, "39ecaefc2df4b8a616255ea7f489d986edb967404d6ea103d50768a71da4b142"), looks := true }, kinds := [], alts := [], laidByText := true, laidKinds := [.data, .handle, .pinned], laidTests := true, laidLooks := .later }
def LeaseFormsCardSaid : Prop := Claim7.holds Tryz.pinned (.plain (OpenSpec.ofChange leaseFormsSpec)) leaseFormsCard

/-- THE TIED CARD OF 'bursarylaw29.LeaseParts'. -/
def leasePartsCard : Claim7 := { stood := { row := leasePartsRow, standIns := [], harness := (true, "39ecaefc2df4b8a616255ea7f489d986edb967404d6ea103d50768a71da4b142"), looks := true }, kinds := [], alts := [], laidByText := true, laidKinds := [.data, .handle, .pinned], laidTests := true, laidLooks := .later }
def LeasePartsCardSaid : Prop := Claim7.holds Tryz.pinned (.plain (OpenSpec.ofChange leasePartsSpec)) leasePartsCard

/-- THE TIED CARD OF 'bursarylaw29.LeaseSteps'. -/
def leaseStepsCard : Claim7 := { stood := { row := leaseStepsRow, standIns := [], harness := (true, "39ecaefc2df4b8a616255ea7f489d986edb967404d6ea103d50768a71da4b142"), looks := true }, kinds := [], alts := [], laidByText := true, laidKinds := [.data, .handle, .pinned], laidTests := true, laidLooks := .later }
def LeaseStepsCardSaid : Prop := Claim7.holds Tryz.pinned (.plain (OpenSpec.ofChange leaseStepsSpec)) leaseStepsCard

/-- THE TIED CARD OF 'bursarylaw29.LeaseSweeps'. -/
def leaseSweepsCard : Claim7 := { stood := { row := leaseSweepsRow, standIns := [], harness := (true, "39ecaefc2df4b8a616255ea7f489d986edb967404d6ea103d50768a71da4b142"), looks := true }, kinds := [], alts := [], laidByText := true, laidKinds := [.data, .handle, .pinned], laidTests := true, laidLooks := .later }
def LeaseSweepsCardSaid : Prop := Claim7.holds Tryz.pinned (.plain (OpenSpec.ofChange leaseSweepsSpec)) leaseSweepsCard

/-- THE SECOND FORM's CARD OF 'bursarylaw29.LeaseForms'. -/
def leaseFormsUptoCard : Claim7 := { stood := { row := leaseFormsUptoRow, standIns := [], harness := (true, "39ecaefc2df4b8a616255ea7f489d986edb967404d6ea103d50768a71da4b142"), looks := true }, kinds := [], alts := [], laidByText := true, laidKinds := [.data, .handle, .pinned], laidTests := true, laidLooks := .later }
def LeaseFormsUptoCardSaid : Prop := Claim7.holds Tryz.pinned (.plain (OpenSpec.upto leaseFormsSpec)) leaseFormsUptoCard

/-- THE SECOND FORM's CARD OF 'bursarylaw29.LeaseParts'. -/
def leasePartsUptoCard : Claim7 := { stood := { row := leasePartsUptoRow, standIns := [], harness := (true, "39ecaefc2df4b8a616255ea7f489d986edb967404d6ea103d50768a71da4b142"), looks := true }, kinds := [], alts := [], laidByText := true, laidKinds := [.data, .handle, .pinned], laidTests := true, laidLooks := .later }
def LeasePartsUptoCardSaid : Prop := Claim7.holds Tryz.pinned (.plain (OpenSpec.upto leasePartsSpec)) leasePartsUptoCard

/-- THE SECOND FORM's CARD OF 'bursarylaw29.LeaseSteps'. -/
def leaseStepsUptoCard : Claim7 := { stood := { row := leaseStepsUptoRow, standIns := [], harness := (true, "39ecaefc2df4b8a616255ea7f489d986edb967404d6ea103d50768a71da4b142"), looks := true }, kinds := [], alts := [], laidByText := true, laidKinds := [.data, .handle, .pinned], laidTests := true, laidLooks := .later }
def LeaseStepsUptoCardSaid : Prop := Claim7.holds Tryz.pinned (.plain (OpenSpec.upto leaseStepsSpec)) leaseStepsUptoCard

/-- THE SECOND FORM's CARD OF 'bursarylaw29.LeaseSweeps'. -/
def leaseSweepsUptoCard : Claim7 := { stood := { row := leaseSweepsUptoRow, standIns := [], harness := (true, "39ecaefc2df4b8a616255ea7f489d986edb967404d6ea103d50768a71da4b142"), looks := true }, kinds := [], alts := [], laidByText := true, laidKinds := [.data, .handle, .pinned], laidTests := true, laidLooks := .later }
def LeaseSweepsUptoCardSaid : Prop := Claim7.holds Tryz.pinned (.plain (OpenSpec.upto leaseSweepsSpec)) leaseSweepsUptoCard
end Rows
end Go.Proofs.YtgfjlgaleddoaaaGreatDoor
