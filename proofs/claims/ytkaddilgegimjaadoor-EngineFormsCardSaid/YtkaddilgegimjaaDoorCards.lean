/-
  DERIVED. GIVEN WITH THE SEED: THE CARDS: each row of YtkaddilgegimjaaDoorRows.lean that lists a variable, with what it lists TIED to the program's text (the seventh form; the later family's looks); each row that meets fmt, with fmt's text TOLD by the authors' own Lean function (tested against real Go, not proved from fmt's source: count such statements apart). THE CARD IS WHAT COUNTS. Prove the row's statement (the work); the ties are given (YtkaddilgegimjaaDoorTie.lean); close each card by the builder's one call (the guide's Derived/Test/ToyasCard.lean, 'card_holds'). Laid BY PROGRAM, IN A SANDBOX (cutbox-door.mjs). By AI agents, Wed Nov 11 2026. No macro, syntax, notation, axiom, sorry.
-/
import Derived.Test.YtkaddilgegimjaaDoorRows
import GoSem.ClaimSeven
namespace Go.Proofs.YtkaddilgegimjaaDoor
namespace Rows

/-- THE TIED CARD OF 'bursarylaw18.NonceRuns'. -/
def nonceRunsCard : Claim7 := { stood := { row := nonceRunsRow, standIns := [], harness := (true, "ee3c0e5fc70c23d8a7405dbb6ceed4baf22c7f57054d3a3d347ab5f5d2317bf0"), looks := true }, kinds := [], alts := [], laidByText := true, laidKinds := [.handle], laidTests := true, laidLooks := .later }
def NonceRunsCardSaid : Prop := Claim7.holds Tryd.pinned (.plain (OpenSpec.ofChange nonceRunsSpec)) nonceRunsCard

/-- THE TIED CARD OF 'bursarylaw18.NonceBytes'. -/
def nonceBytesCard : Claim7 := { stood := { row := nonceBytesRow, standIns := [], harness := (true, "ee3c0e5fc70c23d8a7405dbb6ceed4baf22c7f57054d3a3d347ab5f5d2317bf0"), looks := true }, kinds := [], alts := [], laidByText := true, laidKinds := [.handle], laidTests := true, laidLooks := .later }
def NonceBytesCardSaid : Prop := Claim7.holds Tryd.pinned (.plain (OpenSpec.ofChange nonceBytesSpec)) nonceBytesCard

/-- THE TIED CARD OF 'bursarylaw18.NonceOnce'. -/
def nonceOnceCard : Claim7 := { stood := { row := nonceOnceRow, standIns := [], harness := (true, "ee3c0e5fc70c23d8a7405dbb6ceed4baf22c7f57054d3a3d347ab5f5d2317bf0"), looks := true }, kinds := [], alts := [], laidByText := true, laidKinds := [.handle], laidTests := true, laidLooks := .later }
def NonceOnceCardSaid : Prop := Claim7.holds Tryd.pinned (.plain (OpenSpec.ofChange nonceOnceSpec)) nonceOnceCard

/-- THE TIED CARD OF 'bursarylaw21.ConfigSteps'. -/
def configStepsCard : Claim7 := { stood := { row := configStepsRow, standIns := [], harness := (true, "ee3c0e5fc70c23d8a7405dbb6ceed4baf22c7f57054d3a3d347ab5f5d2317bf0"), looks := true }, kinds := [], alts := [], laidByText := true, laidKinds := [.handle], laidTests := true, laidLooks := .later }
def ConfigStepsCardSaid : Prop := Claim7.holds Tryd.pinned (.plain (OpenSpec.ofChange configStepsSpec)) configStepsCard

/-- THE TIED CARD OF 'bursarylaw21.ConfigBack'. -/
def configBackCard : Claim7 := { stood := { row := configBackRow, standIns := [], harness := (true, "ee3c0e5fc70c23d8a7405dbb6ceed4baf22c7f57054d3a3d347ab5f5d2317bf0"), looks := true }, kinds := [], alts := [], laidByText := true, laidKinds := [.handle], laidTests := true, laidLooks := .later }
def ConfigBackCardSaid : Prop := Claim7.holds Tryd.pinned (.plain (OpenSpec.ofChange configBackSpec)) configBackCard

/-- THE TIED CARD OF 'bursarylaw30.EngineSteps'. -/
def engineStepsCard : Claim7 := { stood := { row := engineStepsRow, standIns := [], harness := (true, "ee3c0e5fc70c23d8a7405dbb6ceed4baf22c7f57054d3a3d347ab5f5d2317bf0"), looks := true }, kinds := [], alts := [], laidByText := true, laidKinds := [.handle], laidTests := true, laidLooks := .later }
def EngineStepsCardSaid : Prop := Claim7.holds Tryd.pinned (.plain (OpenSpec.ofChange engineStepsSpec)) engineStepsCard

/-- THE TIED CARD OF 'bursarylaw30.EngineForms'. -/
def engineFormsCard : Claim7 := { stood := { row := engineFormsRow, standIns := [], harness := (true, "ee3c0e5fc70c23d8a7405dbb6ceed4baf22c7f57054d3a3d347ab5f5d2317bf0"), looks := true }, kinds := [], alts := [], laidByText := true, laidKinds := [.handle], laidTests := true, laidLooks := .later }
def EngineFormsCardSaid : Prop := Claim7.holds Tryd.pinned (.plain (OpenSpec.ofChange engineFormsSpec)) engineFormsCard

/-- THE TIED CARD OF 'bursarylaw30.EngineKeeps'. -/
def engineKeepsCard : Claim7 := { stood := { row := engineKeepsRow, standIns := [], harness := (true, "ee3c0e5fc70c23d8a7405dbb6ceed4baf22c7f57054d3a3d347ab5f5d2317bf0"), looks := true }, kinds := [], alts := [], laidByText := true, laidKinds := [.handle], laidTests := true, laidLooks := .later }
def EngineKeepsCardSaid : Prop := Claim7.holds Tryd.pinned (.plain (OpenSpec.ofChange engineKeepsSpec)) engineKeepsCard

/-- THE TIED CARD OF 'bursarylaw30.EngineCas'. -/
def engineCasCard : Claim7 := { stood := { row := engineCasRow, standIns := [], harness := (true, "ee3c0e5fc70c23d8a7405dbb6ceed4baf22c7f57054d3a3d347ab5f5d2317bf0"), looks := true }, kinds := [], alts := [], laidByText := true, laidKinds := [.handle], laidTests := true, laidLooks := .later }
def EngineCasCardSaid : Prop := Claim7.holds Tryd.pinned (.plain (OpenSpec.ofChange engineCasSpec)) engineCasCard

/-- THE TIED CARD OF 'bursarylaw16.TableSteps'. -/
def tableStepsCard : Claim7 := { stood := { row := tableStepsRow, standIns := [], harness := (true, "ee3c0e5fc70c23d8a7405dbb6ceed4baf22c7f57054d3a3d347ab5f5d2317bf0"), looks := true }, kinds := [], alts := [], laidByText := true, laidKinds := [.handle], laidTests := true, laidLooks := .later }
def TableStepsCardSaid : Prop := Claim7.holds Tryd.pinned (.plain (OpenSpec.ofChange tableStepsSpec)) tableStepsCard

/-- THE TIED CARD OF 'bursarylaw16.TableForms'. -/
def tableFormsCard : Claim7 := { stood := { row := tableFormsRow, standIns := [], harness := (true, "ee3c0e5fc70c23d8a7405dbb6ceed4baf22c7f57054d3a3d347ab5f5d2317bf0"), looks := true }, kinds := [], alts := [], laidByText := true, laidKinds := [.handle], laidTests := true, laidLooks := .later }
def TableFormsCardSaid : Prop := Claim7.holds Tryd.pinned (.plain (OpenSpec.ofChange tableFormsSpec)) tableFormsCard

/-- THE TIED CARD OF 'bursarylaw16.TableBack'. -/
def tableBackCard : Claim7 := { stood := { row := tableBackRow, standIns := [], harness := (true, "ee3c0e5fc70c23d8a7405dbb6ceed4baf22c7f57054d3a3d347ab5f5d2317bf0"), looks := true }, kinds := [], alts := [], laidByText := true, laidKinds := [.handle], laidTests := true, laidLooks := .later }
def TableBackCardSaid : Prop := Claim7.holds Tryd.pinned (.plain (OpenSpec.ofChange tableBackSpec)) tableBackCard

/-- THE SECOND FORM's CARD OF 'bursarylaw18.NonceRuns'. -/
def nonceRunsUptoCard : Claim7 := { stood := { row := nonceRunsUptoRow, standIns := [], harness := (true, "ee3c0e5fc70c23d8a7405dbb6ceed4baf22c7f57054d3a3d347ab5f5d2317bf0"), looks := true }, kinds := [], alts := [], laidByText := true, laidKinds := [.handle], laidTests := true, laidLooks := .later }
def NonceRunsUptoCardSaid : Prop := Claim7.holds Tryd.pinned (.plain (OpenSpec.upto nonceRunsSpec)) nonceRunsUptoCard

/-- THE SECOND FORM's CARD OF 'bursarylaw18.NonceBytes'. -/
def nonceBytesUptoCard : Claim7 := { stood := { row := nonceBytesUptoRow, standIns := [], harness := (true, "ee3c0e5fc70c23d8a7405dbb6ceed4baf22c7f57054d3a3d347ab5f5d2317bf0"), looks := true }, kinds := [], alts := [], laidByText := true, laidKinds := [.handle], laidTests := true, laidLooks := .later }
def NonceBytesUptoCardSaid : Prop := Claim7.holds Tryd.pinned (.plain (OpenSpec.upto nonceBytesSpec)) nonceBytesUptoCard

/-- THE SECOND FORM's CARD OF 'bursarylaw18.NonceOnce'. -/
def nonceOnceUptoCard : Claim7 := { stood := { row := nonceOnceUptoRow, standIns := [], harness := (true, "ee3c0e5fc70c23d8a7405dbb6ceed4baf22c7f57054d3a3d347ab5f5d2317bf0"), looks := true }, kinds := [], alts := [], laidByText := true, laidKinds := [.handle], laidTests := true, laidLooks := .later }
def NonceOnceUptoCardSaid : Prop := Claim7.holds Tryd.pinned (.plain (OpenSpec.upto nonceOnceSpec)) nonceOnceUptoCard

/-- THE SECOND FORM's CARD OF 'bursarylaw21.ConfigSteps'. -/
def configStepsUptoCard : Claim7 := { stood := { row := configStepsUptoRow, standIns := [], harness := (true, "ee3c0e5fc70c23d8a7405dbb6ceed4baf22c7f57054d3a3d347ab5f5d2317bf0"), looks := true }, kinds := [], alts := [], laidByText := true, laidKinds := [.handle], laidTests := true, laidLooks := .later }
def ConfigStepsUptoCardSaid : Prop := Claim7.holds Tryd.pinned (.plain (OpenSpec.upto configStepsSpec)) configStepsUptoCard

/-- THE SECOND FORM's CARD OF 'bursarylaw21.ConfigBack'. -/
def configBackUptoCard : Claim7 := { stood := { row := configBackUptoRow, standIns := [], harness := (true, "ee3c0e5fc70c23d8a7405dbb6ceed4baf22c7f57054d3a3d347ab5f5d2317bf0"), looks := true }, kinds := [], alts := [], laidByText := true, laidKinds := [.handle], laidTests := true, laidLooks := .later }
def ConfigBackUptoCardSaid : Prop := Claim7.holds Tryd.pinned (.plain (OpenSpec.upto configBackSpec)) configBackUptoCard

/-- THE SECOND FORM's CARD OF 'bursarylaw30.EngineSteps'. -/
def engineStepsUptoCard : Claim7 := { stood := { row := engineStepsUptoRow, standIns := [], harness := (true, "ee3c0e5fc70c23d8a7405dbb6ceed4baf22c7f57054d3a3d347ab5f5d2317bf0"), looks := true }, kinds := [], alts := [], laidByText := true, laidKinds := [.handle], laidTests := true, laidLooks := .later }
def EngineStepsUptoCardSaid : Prop := Claim7.holds Tryd.pinned (.plain (OpenSpec.upto engineStepsSpec)) engineStepsUptoCard

/-- THE SECOND FORM's CARD OF 'bursarylaw30.EngineForms'. -/
def engineFormsUptoCard : Claim7 := { stood := { row := engineFormsUptoRow, standIns := [], harness := (true, "ee3c0e5fc70c23d8a7405dbb6ceed4baf22c7f57054d3a3d347ab5f5d2317bf0"), looks := true }, kinds := [], alts := [], laidByText := true, laidKinds := [.handle], laidTests := true, laidLooks := .later }
def EngineFormsUptoCardSaid : Prop := Claim7.holds Tryd.pinned (.plain (OpenSpec.upto engineFormsSpec)) engineFormsUptoCard

/-- THE SECOND FORM's CARD OF 'bursarylaw30.EngineKeeps'. -/
def engineKeepsUptoCard : Claim7 := { stood := { row := engineKeepsUptoRow, standIns := [], harness := (true, "ee3c0e5fc70c23d8a7405dbb6ceed4baf22c7f57054d3a3d347ab5f5d2317bf0"), looks := true }, kinds := [], alts := [], laidByText := true, laidKinds := [.handle], laidTests := true, laidLooks := .later }
def EngineKeepsUptoCardSaid : Prop := Claim7.holds Tryd.pinned (.plain (OpenSpec.upto engineKeepsSpec)) engineKeepsUptoCard

/-- THE SECOND FORM's CARD OF 'bursarylaw30.EngineCas'. -/
def engineCasUptoCard : Claim7 := { stood := { row := engineCasUptoRow, standIns := [], harness := (true, "ee3c0e5fc70c23d8a7405dbb6ceed4baf22c7f57054d3a3d347ab5f5d2317bf0"), looks := true }, kinds := [], alts := [], laidByText := true, laidKinds := [.handle], laidTests := true, laidLooks := .later }
def EngineCasUptoCardSaid : Prop := Claim7.holds Tryd.pinned (.plain (OpenSpec.upto engineCasSpec)) engineCasUptoCard

/-- THE SECOND FORM's CARD OF 'bursarylaw16.TableSteps'. -/
def tableStepsUptoCard : Claim7 := { stood := { row := tableStepsUptoRow, standIns := [], harness := (true, "ee3c0e5fc70c23d8a7405dbb6ceed4baf22c7f57054d3a3d347ab5f5d2317bf0"), looks := true }, kinds := [], alts := [], laidByText := true, laidKinds := [.handle], laidTests := true, laidLooks := .later }
def TableStepsUptoCardSaid : Prop := Claim7.holds Tryd.pinned (.plain (OpenSpec.upto tableStepsSpec)) tableStepsUptoCard

/-- THE SECOND FORM's CARD OF 'bursarylaw16.TableForms'. -/
def tableFormsUptoCard : Claim7 := { stood := { row := tableFormsUptoRow, standIns := [], harness := (true, "ee3c0e5fc70c23d8a7405dbb6ceed4baf22c7f57054d3a3d347ab5f5d2317bf0"), looks := true }, kinds := [], alts := [], laidByText := true, laidKinds := [.handle], laidTests := true, laidLooks := .later }
def TableFormsUptoCardSaid : Prop := Claim7.holds Tryd.pinned (.plain (OpenSpec.upto tableFormsSpec)) tableFormsUptoCard

/-- THE SECOND FORM's CARD OF 'bursarylaw16.TableBack'. -/
def tableBackUptoCard : Claim7 := { stood := { row := tableBackUptoRow, standIns := [], harness := (true, "ee3c0e5fc70c23d8a7405dbb6ceed4baf22c7f57054d3a3d347ab5f5d2317bf0"), looks := true }, kinds := [], alts := [], laidByText := true, laidKinds := [.handle], laidTests := true, laidLooks := .later }
def TableBackUptoCardSaid : Prop := Claim7.holds Tryd.pinned (.plain (OpenSpec.upto tableBackSpec)) tableBackUptoCard
end Rows
end Go.Proofs.YtkaddilgegimjaaDoor
