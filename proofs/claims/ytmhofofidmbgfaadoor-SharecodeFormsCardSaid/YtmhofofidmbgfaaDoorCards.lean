/-
  DERIVED. GIVEN WITH THE SEED: THE CARDS: each row of YtmhofofidmbgfaaDoorRows.lean that lists a variable, with what it lists TIED to the program's text (the seventh form; the later family's looks); each row that meets fmt, with fmt's text TOLD by the authors' own Lean function (tested against real Go, not proved from fmt's source: count such statements apart). THE CARD IS WHAT COUNTS. Prove the row's statement (the work); the ties are given (YtmhofofidmbgfaaDoorTie.lean); close each card by the builder's one call (the guide's Derived/Test/ToyasCard.lean, 'card_holds'). Laid BY PROGRAM, IN A SANDBOX (cutbox-door.mjs). By AI agents, Wed Nov 11 2026. No macro, syntax, notation, axiom, sorry.
-/
import Derived.Test.YtmhofofidmbgfaaDoorRows
import GoSem.ClaimSeven
namespace Go.Proofs.YtmhofofidmbgfaaDoor
namespace Rows

/-- THE TIED CARD OF 'bursarylaw03.ShamirSplits'. -/
def shamirSplitsCard : Claim7 := { stood := { row := shamirSplitsRow, standIns := [], harness := (true, "3dfcc5e6ebaedf71915126f471e22c1a2cdd20792c5bb91048581b60428b9a53"), looks := true }, kinds := [], alts := [], laidByText := true, laidKinds := [.handle], laidTests := true, laidLooks := .later }
def ShamirSplitsCardSaid : Prop := Claim7.holds Tryd.pinned (.plain (OpenSpec.ofChange shamirSplitsSpec)) shamirSplitsCard

/-- THE TIED CARD OF 'bursarylaw03.ShamirJoins'. -/
def shamirJoinsCard : Claim7 := { stood := { row := shamirJoinsRow, standIns := [], harness := (true, "3dfcc5e6ebaedf71915126f471e22c1a2cdd20792c5bb91048581b60428b9a53"), looks := true }, kinds := [], alts := [], laidByText := true, laidKinds := [.handle], laidTests := true, laidLooks := .later }
def ShamirJoinsCardSaid : Prop := Claim7.holds Tryd.pinned (.plain (OpenSpec.ofChange shamirJoinsSpec)) shamirJoinsCard

/-- THE TIED CARD OF 'bursarylaw03.ShamirAny'. -/
def shamirAnyCard : Claim7 := { stood := { row := shamirAnyRow, standIns := [], harness := (true, "3dfcc5e6ebaedf71915126f471e22c1a2cdd20792c5bb91048581b60428b9a53"), looks := true }, kinds := [], alts := [], laidByText := true, laidKinds := [.handle], laidTests := true, laidLooks := .later }
def ShamirAnyCardSaid : Prop := Claim7.holds Tryd.pinned (.plain (OpenSpec.ofChange shamirAnySpec)) shamirAnyCard

/-- THE TIED CARD OF 'bursarylaw03.ShamirHides'. -/
def shamirHidesCard : Claim7 := { stood := { row := shamirHidesRow, standIns := [], harness := (true, "3dfcc5e6ebaedf71915126f471e22c1a2cdd20792c5bb91048581b60428b9a53"), looks := true }, kinds := [], alts := [], laidByText := true, laidKinds := [.handle], laidTests := true, laidLooks := .later }
def ShamirHidesCardSaid : Prop := Claim7.holds Tryd.pinned (.plain (OpenSpec.ofChange shamirHidesSpec)) shamirHidesCard

/-- THE TIED CARD OF 'bursarylaw03.ShamirSums'. -/
def shamirSumsCard : Claim7 := { stood := { row := shamirSumsRow, standIns := [], harness := (true, "3dfcc5e6ebaedf71915126f471e22c1a2cdd20792c5bb91048581b60428b9a53"), looks := true }, kinds := [], alts := [], laidByText := true, laidKinds := [.handle], laidTests := true, laidLooks := .later }
def ShamirSumsCardSaid : Prop := Claim7.holds Tryd.pinned (.plain (OpenSpec.ofChange shamirSumsSpec)) shamirSumsCard

/-- THE TIED CARD OF 'bursarylaw04.SharecodeForms'. -/
def sharecodeFormsCard : Claim7 := { stood := { row := sharecodeFormsRow, standIns := [], harness := (true, "3dfcc5e6ebaedf71915126f471e22c1a2cdd20792c5bb91048581b60428b9a53"), looks := true }, kinds := [], alts := [], laidByText := true, laidKinds := [.handle], laidTests := true, laidLooks := .later }
def SharecodeFormsCardSaid : Prop := Claim7.holds Tryd.pinned (.plain (OpenSpec.ofChange sharecodeFormsSpec)) sharecodeFormsCard

/-- THE TIED CARD OF 'bursarylaw04.SharecodeBack'. -/
def sharecodeBackCard : Claim7 := { stood := { row := sharecodeBackRow, standIns := [], harness := (true, "3dfcc5e6ebaedf71915126f471e22c1a2cdd20792c5bb91048581b60428b9a53"), looks := true }, kinds := [], alts := [], laidByText := true, laidKinds := [.handle], laidTests := true, laidLooks := .later }
def SharecodeBackCardSaid : Prop := Claim7.holds Tryd.pinned (.plain (OpenSpec.ofChange sharecodeBackSpec)) sharecodeBackCard

/-- THE SECOND FORM's CARD OF 'bursarylaw03.ShamirSplits'. -/
def shamirSplitsUptoCard : Claim7 := { stood := { row := shamirSplitsUptoRow, standIns := [], harness := (true, "3dfcc5e6ebaedf71915126f471e22c1a2cdd20792c5bb91048581b60428b9a53"), looks := true }, kinds := [], alts := [], laidByText := true, laidKinds := [.handle], laidTests := true, laidLooks := .later }
def ShamirSplitsUptoCardSaid : Prop := Claim7.holds Tryd.pinned (.plain (OpenSpec.upto shamirSplitsSpec)) shamirSplitsUptoCard

/-- THE SECOND FORM's CARD OF 'bursarylaw03.ShamirJoins'. -/
def shamirJoinsUptoCard : Claim7 := { stood := { row := shamirJoinsUptoRow, standIns := [], harness := (true, "3dfcc5e6ebaedf71915126f471e22c1a2cdd20792c5bb91048581b60428b9a53"), looks := true }, kinds := [], alts := [], laidByText := true, laidKinds := [.handle], laidTests := true, laidLooks := .later }
def ShamirJoinsUptoCardSaid : Prop := Claim7.holds Tryd.pinned (.plain (OpenSpec.upto shamirJoinsSpec)) shamirJoinsUptoCard

/-- THE SECOND FORM's CARD OF 'bursarylaw03.ShamirAny'. -/
def shamirAnyUptoCard : Claim7 := { stood := { row := shamirAnyUptoRow, standIns := [], harness := (true, "3dfcc5e6ebaedf71915126f471e22c1a2cdd20792c5bb91048581b60428b9a53"), looks := true }, kinds := [], alts := [], laidByText := true, laidKinds := [.handle], laidTests := true, laidLooks := .later }
def ShamirAnyUptoCardSaid : Prop := Claim7.holds Tryd.pinned (.plain (OpenSpec.upto shamirAnySpec)) shamirAnyUptoCard

/-- THE SECOND FORM's CARD OF 'bursarylaw03.ShamirHides'. -/
def shamirHidesUptoCard : Claim7 := { stood := { row := shamirHidesUptoRow, standIns := [], harness := (true, "3dfcc5e6ebaedf71915126f471e22c1a2cdd20792c5bb91048581b60428b9a53"), looks := true }, kinds := [], alts := [], laidByText := true, laidKinds := [.handle], laidTests := true, laidLooks := .later }
def ShamirHidesUptoCardSaid : Prop := Claim7.holds Tryd.pinned (.plain (OpenSpec.upto shamirHidesSpec)) shamirHidesUptoCard

/-- THE SECOND FORM's CARD OF 'bursarylaw03.ShamirSums'. -/
def shamirSumsUptoCard : Claim7 := { stood := { row := shamirSumsUptoRow, standIns := [], harness := (true, "3dfcc5e6ebaedf71915126f471e22c1a2cdd20792c5bb91048581b60428b9a53"), looks := true }, kinds := [], alts := [], laidByText := true, laidKinds := [.handle], laidTests := true, laidLooks := .later }
def ShamirSumsUptoCardSaid : Prop := Claim7.holds Tryd.pinned (.plain (OpenSpec.upto shamirSumsSpec)) shamirSumsUptoCard

/-- THE SECOND FORM's CARD OF 'bursarylaw04.SharecodeForms'. -/
def sharecodeFormsUptoCard : Claim7 := { stood := { row := sharecodeFormsUptoRow, standIns := [], harness := (true, "3dfcc5e6ebaedf71915126f471e22c1a2cdd20792c5bb91048581b60428b9a53"), looks := true }, kinds := [], alts := [], laidByText := true, laidKinds := [.handle], laidTests := true, laidLooks := .later }
def SharecodeFormsUptoCardSaid : Prop := Claim7.holds Tryd.pinned (.plain (OpenSpec.upto sharecodeFormsSpec)) sharecodeFormsUptoCard

/-- THE SECOND FORM's CARD OF 'bursarylaw04.SharecodeBack'. -/
def sharecodeBackUptoCard : Claim7 := { stood := { row := sharecodeBackUptoRow, standIns := [], harness := (true, "3dfcc5e6ebaedf71915126f471e22c1a2cdd20792c5bb91048581b60428b9a53"), looks := true }, kinds := [], alts := [], laidByText := true, laidKinds := [.handle], laidTests := true, laidLooks := .later }
def SharecodeBackUptoCardSaid : Prop := Claim7.holds Tryd.pinned (.plain (OpenSpec.upto sharecodeBackSpec)) sharecodeBackUptoCard
end Rows
end Go.Proofs.YtmhofofidmbgfaaDoor
