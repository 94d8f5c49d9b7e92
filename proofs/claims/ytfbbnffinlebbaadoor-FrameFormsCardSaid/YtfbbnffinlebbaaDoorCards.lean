/-
  DERIVED. GIVEN WITH THE SEED: THE CARDS: each row of YtfbbnffinlebbaaDoorRows.lean that lists a variable, with what it lists TIED to the program's text (the seventh form; the later family's looks); each row that meets fmt, with fmt's text TOLD by the authors' own Lean function (tested against real Go, not proved from fmt's source: count such statements apart). THE CARD IS WHAT COUNTS. Prove the row's statement (the work); the ties are given (YtfbbnffinlebbaaDoorTie.lean); close each card by the builder's one call (the guide's Derived/Test/ToyasCard.lean, 'card_holds'). Laid BY PROGRAM, IN A SANDBOX (cutbox-door.mjs). By AI agents, Wed Nov 11 2026. No macro, syntax, notation, axiom, sorry.
-/
import Derived.Test.YtfbbnffinlebbaaDoorRows
import GoSem.ClaimSeven
namespace Go.Proofs.YtfbbnffinlebbaaDoor
namespace Rows

/-- THE TIED CARD OF 'bursarylaw14.FrameForms'. -/
def frameFormsCard : Claim7 := { stood := { row := frameFormsRow, standIns := [], harness := (true, "0dabdc1887de194471ef2121d3531ccb9a65ae5e6a209dedb0e7219da4741628"), looks := true }, kinds := [], alts := [], laidByText := true, laidKinds := [.handle], laidTests := true, laidLooks := .later }
def FrameFormsCardSaid : Prop := Claim7.holds Tryd.pinned (.plain (OpenSpec.ofChange frameFormsSpec)) frameFormsCard

/-- THE TIED CARD OF 'bursarylaw14.FrameBack'. -/
def frameBackCard : Claim7 := { stood := { row := frameBackRow, standIns := [], harness := (true, "0dabdc1887de194471ef2121d3531ccb9a65ae5e6a209dedb0e7219da4741628"), looks := true }, kinds := [], alts := [], laidByText := true, laidKinds := [.handle], laidTests := true, laidLooks := .later }
def FrameBackCardSaid : Prop := Claim7.holds Tryd.pinned (.plain (OpenSpec.ofChange frameBackSpec)) frameBackCard

/-- THE TIED CARD OF 'bursarylaw14.FrameMixed'. -/
def frameMixedCard : Claim7 := { stood := { row := frameMixedRow, standIns := [], harness := (true, "0dabdc1887de194471ef2121d3531ccb9a65ae5e6a209dedb0e7219da4741628"), looks := true }, kinds := [], alts := [], laidByText := true, laidKinds := [.handle], laidTests := true, laidLooks := .later }
def FrameMixedCardSaid : Prop := Claim7.holds Tryd.pinned (.plain (OpenSpec.ofChange frameMixedSpec)) frameMixedCard

/-- THE SECOND FORM's CARD OF 'bursarylaw14.FrameForms'. -/
def frameFormsUptoCard : Claim7 := { stood := { row := frameFormsUptoRow, standIns := [], harness := (true, "0dabdc1887de194471ef2121d3531ccb9a65ae5e6a209dedb0e7219da4741628"), looks := true }, kinds := [], alts := [], laidByText := true, laidKinds := [.handle], laidTests := true, laidLooks := .later }
def FrameFormsUptoCardSaid : Prop := Claim7.holds Tryd.pinned (.plain (OpenSpec.upto frameFormsSpec)) frameFormsUptoCard

/-- THE SECOND FORM's CARD OF 'bursarylaw14.FrameBack'. -/
def frameBackUptoCard : Claim7 := { stood := { row := frameBackUptoRow, standIns := [], harness := (true, "0dabdc1887de194471ef2121d3531ccb9a65ae5e6a209dedb0e7219da4741628"), looks := true }, kinds := [], alts := [], laidByText := true, laidKinds := [.handle], laidTests := true, laidLooks := .later }
def FrameBackUptoCardSaid : Prop := Claim7.holds Tryd.pinned (.plain (OpenSpec.upto frameBackSpec)) frameBackUptoCard

/-- THE SECOND FORM's CARD OF 'bursarylaw14.FrameMixed'. -/
def frameMixedUptoCard : Claim7 := { stood := { row := frameMixedUptoRow, standIns := [], harness := (true, "0dabdc1887de194471ef2121d3531ccb9a65ae5e6a209dedb0e7219da4741628"), looks := true }, kinds := [], alts := [], laidByText := true, laidKinds := [.handle], laidTests := true, laidLooks := .later }
def FrameMixedUptoCardSaid : Prop := Claim7.holds Tryd.pinned (.plain (OpenSpec.upto frameMixedSpec)) frameMixedUptoCard
end Rows
end Go.Proofs.YtfbbnffinlebbaaDoor
