/-
  DERIVED. GIVEN WITH THE SEED: THE CARDS: each row of YtnkbnlmbjbdmmaaDoorRows.lean that lists a variable, with what it lists TIED to the program's text (the seventh form; the later family's looks); each row that meets fmt, with fmt's text TOLD by the authors' own Lean function (tested against real Go, not proved from fmt's source: count such statements apart). THE CARD IS WHAT COUNTS. Prove the row's statement (the work); the ties are given (YtnkbnlmbjbdmmaaDoorTie.lean); close each card by the builder's one call (the guide's Derived/Test/ToyasCard.lean, 'card_holds'). Laid BY PROGRAM, IN A SANDBOX (cutbox-door.mjs). By AI agents, Wed Nov 11 2026. No macro, syntax, notation, axiom, sorry.
-/
import Derived.Test.YtnkbnlmbjbdmmaaDoorRows
import GoSem.ClaimSeven
namespace Go.Proofs.YtnkbnlmbjbdmmaaDoor
namespace Rows

/-- THE TIED CARD OF 'bursarylaw27.ClockExact'. -/
def clockExactCard : Claim7 := { stood := { row := clockExactRow, standIns := [], harness := (true, "3c44f55bf421837df20d98081e186440b7e65c0254466924355b06ec60235618"), looks := true }, kinds := [], alts := [], laidByText := true, laidKinds := [.handle], laidTests := true, laidLooks := .later }
def ClockExactCardSaid : Prop := Claim7.holds Tryd.pinned (.plain (OpenSpec.ofChange clockExactSpec)) clockExactCard

/-- THE TIED CARD OF 'bursarylaw27.ClockOnward'. -/
def clockOnwardCard : Claim7 := { stood := { row := clockOnwardRow, standIns := [], harness := (true, "3c44f55bf421837df20d98081e186440b7e65c0254466924355b06ec60235618"), looks := true }, kinds := [], alts := [], laidByText := true, laidKinds := [.handle], laidTests := true, laidLooks := .later }
def ClockOnwardCardSaid : Prop := Claim7.holds Tryd.pinned (.plain (OpenSpec.ofChange clockOnwardSpec)) clockOnwardCard

/-- THE TIED CARD OF 'bursarylaw27.ClockRenews'. -/
def clockRenewsCard : Claim7 := { stood := { row := clockRenewsRow, standIns := [], harness := (true, "3c44f55bf421837df20d98081e186440b7e65c0254466924355b06ec60235618"), looks := true }, kinds := [], alts := [], laidByText := true, laidKinds := [.handle], laidTests := true, laidLooks := .later }
def ClockRenewsCardSaid : Prop := Claim7.holds Tryd.pinned (.plain (OpenSpec.ofChange clockRenewsSpec)) clockRenewsCard

/-- THE SECOND FORM's CARD OF 'bursarylaw27.ClockExact'. -/
def clockExactUptoCard : Claim7 := { stood := { row := clockExactUptoRow, standIns := [], harness := (true, "3c44f55bf421837df20d98081e186440b7e65c0254466924355b06ec60235618"), looks := true }, kinds := [], alts := [], laidByText := true, laidKinds := [.handle], laidTests := true, laidLooks := .later }
def ClockExactUptoCardSaid : Prop := Claim7.holds Tryd.pinned (.plain (OpenSpec.upto clockExactSpec)) clockExactUptoCard

/-- THE SECOND FORM's CARD OF 'bursarylaw27.ClockOnward'. -/
def clockOnwardUptoCard : Claim7 := { stood := { row := clockOnwardUptoRow, standIns := [], harness := (true, "3c44f55bf421837df20d98081e186440b7e65c0254466924355b06ec60235618"), looks := true }, kinds := [], alts := [], laidByText := true, laidKinds := [.handle], laidTests := true, laidLooks := .later }
def ClockOnwardUptoCardSaid : Prop := Claim7.holds Tryd.pinned (.plain (OpenSpec.upto clockOnwardSpec)) clockOnwardUptoCard

/-- THE SECOND FORM's CARD OF 'bursarylaw27.ClockRenews'. -/
def clockRenewsUptoCard : Claim7 := { stood := { row := clockRenewsUptoRow, standIns := [], harness := (true, "3c44f55bf421837df20d98081e186440b7e65c0254466924355b06ec60235618"), looks := true }, kinds := [], alts := [], laidByText := true, laidKinds := [.handle], laidTests := true, laidLooks := .later }
def ClockRenewsUptoCardSaid : Prop := Claim7.holds Tryd.pinned (.plain (OpenSpec.upto clockRenewsSpec)) clockRenewsUptoCard
end Rows
end Go.Proofs.YtnkbnlmbjbdmmaaDoor
