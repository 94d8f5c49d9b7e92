/-
  DERIVED. GIVEN WITH THE SEED: THE CARDS: each row of YtcdeamokkbondaaDoorRows.lean that lists a variable, with what it lists TIED to the program's text (the seventh form; the later family's looks); each row that meets fmt, with fmt's text TOLD by the authors' own Lean function (tested against real Go, not proved from fmt's source: count such statements apart). THE CARD IS WHAT COUNTS. Prove the row's statement (the work); the ties are given (YtcdeamokkbondaaDoorTie.lean); close each card by the builder's one call (the guide's Derived/Test/ToyasCard.lean, 'card_holds'). Laid BY PROGRAM, IN A SANDBOX (cutbox-door.mjs). By AI agents, Wed Nov 11 2026. No macro, syntax, notation, axiom, sorry.
-/
import Derived.Test.YtcdeamokkbondaaDoorRows
import GoSem.ClaimSeven
namespace Go.Proofs.YtcdeamokkbondaaDoor
namespace Rows

/-- THE TIED CARD OF 'bursarylaw31.WireForms'. -/
def wireFormsCard : Claim7 := { stood := { row := wireFormsRow, standIns := [], harness := (true, "696ebfaec87b1ccd015f085549d4c45be17f4621b007a6027827e6323c92d635"), looks := true }, kinds := [], alts := [], laidByText := true, laidKinds := [.handle], laidTests := true, laidLooks := .later }
def WireFormsCardSaid : Prop := Claim7.holds Tryd.pinned (.plain (OpenSpec.ofChange wireFormsSpec)) wireFormsCard

/-- THE TIED CARD OF 'bursarylaw31.WireBack'. -/
def wireBackCard : Claim7 := { stood := { row := wireBackRow, standIns := [], harness := (true, "696ebfaec87b1ccd015f085549d4c45be17f4621b007a6027827e6323c92d635"), looks := true }, kinds := [], alts := [], laidByText := true, laidKinds := [.handle], laidTests := true, laidLooks := .later }
def WireBackCardSaid : Prop := Claim7.holds Tryd.pinned (.plain (OpenSpec.ofChange wireBackSpec)) wireBackCard

/-- THE TIED CARD OF 'bursarylaw31.WireRoom'. -/
def wireRoomCard : Claim7 := { stood := { row := wireRoomRow, standIns := [], harness := (true, "696ebfaec87b1ccd015f085549d4c45be17f4621b007a6027827e6323c92d635"), looks := true }, kinds := [], alts := [], laidByText := true, laidKinds := [.handle], laidTests := true, laidLooks := .later }
def WireRoomCardSaid : Prop := Claim7.holds Tryd.pinned (.plain (OpenSpec.ofChange wireRoomSpec)) wireRoomCard

/-- THE SECOND FORM's CARD OF 'bursarylaw31.WireForms'. -/
def wireFormsUptoCard : Claim7 := { stood := { row := wireFormsUptoRow, standIns := [], harness := (true, "696ebfaec87b1ccd015f085549d4c45be17f4621b007a6027827e6323c92d635"), looks := true }, kinds := [], alts := [], laidByText := true, laidKinds := [.handle], laidTests := true, laidLooks := .later }
def WireFormsUptoCardSaid : Prop := Claim7.holds Tryd.pinned (.plain (OpenSpec.upto wireFormsSpec)) wireFormsUptoCard

/-- THE SECOND FORM's CARD OF 'bursarylaw31.WireBack'. -/
def wireBackUptoCard : Claim7 := { stood := { row := wireBackUptoRow, standIns := [], harness := (true, "696ebfaec87b1ccd015f085549d4c45be17f4621b007a6027827e6323c92d635"), looks := true }, kinds := [], alts := [], laidByText := true, laidKinds := [.handle], laidTests := true, laidLooks := .later }
def WireBackUptoCardSaid : Prop := Claim7.holds Tryd.pinned (.plain (OpenSpec.upto wireBackSpec)) wireBackUptoCard

/-- THE SECOND FORM's CARD OF 'bursarylaw31.WireRoom'. -/
def wireRoomUptoCard : Claim7 := { stood := { row := wireRoomUptoRow, standIns := [], harness := (true, "696ebfaec87b1ccd015f085549d4c45be17f4621b007a6027827e6323c92d635"), looks := true }, kinds := [], alts := [], laidByText := true, laidKinds := [.handle], laidTests := true, laidLooks := .later }
def WireRoomUptoCardSaid : Prop := Claim7.holds Tryd.pinned (.plain (OpenSpec.upto wireRoomSpec)) wireRoomUptoCard
end Rows
end Go.Proofs.YtcdeamokkbondaaDoor
