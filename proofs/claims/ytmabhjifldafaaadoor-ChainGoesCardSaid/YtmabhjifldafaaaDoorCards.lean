/-
  DERIVED. GIVEN WITH THE SEED: THE CARDS: each row of YtmabhjifldafaaaDoorRows.lean that lists a variable, with what it lists TIED to the program's text (the seventh form; the later family's looks); each row that meets fmt, with fmt's text TOLD by the authors' own Lean function (tested against real Go, not proved from fmt's source: count such statements apart). THE CARD IS WHAT COUNTS. Prove the row's statement (the work); the ties are given (YtmabhjifldafaaaDoorTie.lean); close each card by the builder's one call (the guide's Derived/Test/ToyasCard.lean, 'card_holds'). Laid BY PROGRAM, IN A SANDBOX (cutbox-door.mjs). By AI agents, Wed Nov 11 2026. No macro, syntax, notation, axiom, sorry.
-/
import Derived.Test.YtmabhjifldafaaaDoorRows
import GoSem.ClaimSeven
namespace Go.Proofs.YtmabhjifldafaaaDoor
namespace Rows

/-- THE TIED CARD OF 'bursarylaw32.RequestNames'. -/
def requestNamesCard : Claim7 := { stood := { row := requestNamesRow, standIns := [], harness := (true, "5d7fceb5615afb61665564c3169ebe9004616e26e45047bd93800911d3a54610"), looks := true }, kinds := [], alts := [], laidByText := true, laidKinds := [.handle, .data], laidTests := true, laidLooks := .later }
def RequestNamesCardSaid : Prop := Claim7.holds Tryd.pinned (.plain (OpenSpec.ofChange requestNamesSpec)) requestNamesCard

/-- THE TIED CARD OF 'bursarylaw32.RequestForms'. -/
def requestFormsCard : Claim7 := { stood := { row := requestFormsRow, standIns := [], harness := (true, "5d7fceb5615afb61665564c3169ebe9004616e26e45047bd93800911d3a54610"), looks := true }, kinds := [], alts := [], laidByText := true, laidKinds := [.handle, .data], laidTests := true, laidLooks := .later }
def RequestFormsCardSaid : Prop := Claim7.holds Tryd.pinned (.plain (OpenSpec.ofChange requestFormsSpec)) requestFormsCard

/-- THE TIED CARD OF 'bursarylaw32.RequestBack'. -/
def requestBackCard : Claim7 := { stood := { row := requestBackRow, standIns := [], harness := (true, "5d7fceb5615afb61665564c3169ebe9004616e26e45047bd93800911d3a54610"), looks := true }, kinds := [], alts := [], laidByText := true, laidKinds := [.handle, .data], laidTests := true, laidLooks := .later }
def RequestBackCardSaid : Prop := Claim7.holds Tryd.pinned (.plain (OpenSpec.ofChange requestBackSpec)) requestBackCard

/-- THE TIED CARD OF 'bursarylaw34.ChainGoes'. -/
def chainGoesCard : Claim7 := { stood := { row := chainGoesRow, standIns := [], harness := (true, "5d7fceb5615afb61665564c3169ebe9004616e26e45047bd93800911d3a54610"), looks := true }, kinds := [], alts := [], laidByText := true, laidKinds := [.data, .data, .handle], laidTests := true, laidLooks := .later }
def ChainGoesCardSaid : Prop := Claim7.holds Tryd.pinned (.plain (OpenSpec.ofChange chainGoesSpec)) chainGoesCard

/-- THE TIED CARD OF 'bursarylaw34.ChainCuts'. -/
def chainCutsCard : Claim7 := { stood := { row := chainCutsRow, standIns := [], harness := (true, "5d7fceb5615afb61665564c3169ebe9004616e26e45047bd93800911d3a54610"), looks := true }, kinds := [], alts := [], laidByText := true, laidKinds := [.data, .data, .handle], laidTests := true, laidLooks := .later }
def ChainCutsCardSaid : Prop := Claim7.holds Tryd.pinned (.plain (OpenSpec.ofChange chainCutsSpec)) chainCutsCard

/-- THE TIED CARD OF 'bursarylaw34.ChainApart'. -/
def chainApartCard : Claim7 := { stood := { row := chainApartRow, standIns := [], harness := (true, "5d7fceb5615afb61665564c3169ebe9004616e26e45047bd93800911d3a54610"), looks := true }, kinds := [], alts := [], laidByText := true, laidKinds := [.data, .data, .handle], laidTests := true, laidLooks := .later }
def ChainApartCardSaid : Prop := Claim7.holds Tryd.pinned (.plain (OpenSpec.ofChange chainApartSpec)) chainApartCard

/-- THE TIED CARD OF 'bursarylaw34.ChainExact'. -/
def chainExactCard : Claim7 := { stood := { row := chainExactRow, standIns := [], harness := (true, "5d7fceb5615afb61665564c3169ebe9004616e26e45047bd93800911d3a54610"), looks := true }, kinds := [], alts := [], laidByText := true, laidKinds := [.data, .data, .handle], laidTests := true, laidLooks := .later }
def ChainExactCardSaid : Prop := Claim7.holds Tryd.pinned (.plain (OpenSpec.ofChange chainExactSpec)) chainExactCard

/-- THE TIED CARD OF 'bursarylaw33.AuditMasks'. -/
def auditMasksCard : Claim7 := { stood := { row := auditMasksRow, standIns := [], harness := (true, "5d7fceb5615afb61665564c3169ebe9004616e26e45047bd93800911d3a54610"), looks := true }, kinds := [], alts := [], laidByText := true, laidKinds := [.data, .data, .handle, .data], laidTests := true, laidLooks := .later }
def AuditMasksCardSaid : Prop := Claim7.holds Tryd.pinned (.plain (OpenSpec.ofChange auditMasksSpec)) auditMasksCard

/-- THE TIED CARD OF 'bursarylaw33.AuditForms'. -/
def auditFormsCard : Claim7 := { stood := { row := auditFormsRow, standIns := [], harness := (true, "5d7fceb5615afb61665564c3169ebe9004616e26e45047bd93800911d3a54610"), looks := true }, kinds := [], alts := [], laidByText := true, laidKinds := [.data, .data, .handle, .data], laidTests := true, laidLooks := .later }
def AuditFormsCardSaid : Prop := Claim7.holds Tryd.pinned (.plain (OpenSpec.ofChange auditFormsSpec)) auditFormsCard

/-- THE TIED CARD OF 'bursarylaw33.AuditTold'. -/
def auditToldCard : Claim7 := { stood := { row := auditToldRow, standIns := [], harness := (true, "5d7fceb5615afb61665564c3169ebe9004616e26e45047bd93800911d3a54610"), looks := true }, kinds := [], alts := [], laidByText := true, laidKinds := [.data, .data, .handle, .data], laidTests := true, laidLooks := .later }
def AuditToldCardSaid : Prop := Claim7.holds Tryd.pinned (.plain (OpenSpec.ofChange auditToldSpec)) auditToldCard

/-- THE TIED CARD OF 'bursarylaw33.AuditExact'. -/
def auditExactCard : Claim7 := { stood := { row := auditExactRow, standIns := [], harness := (true, "5d7fceb5615afb61665564c3169ebe9004616e26e45047bd93800911d3a54610"), looks := true }, kinds := [], alts := [], laidByText := true, laidKinds := [.data, .data, .handle, .data], laidTests := true, laidLooks := .later }
def AuditExactCardSaid : Prop := Claim7.holds Tryd.pinned (.plain (OpenSpec.ofChange auditExactSpec)) auditExactCard

/-- THE SECOND FORM's CARD OF 'bursarylaw32.RequestNames'. -/
def requestNamesUptoCard : Claim7 := { stood := { row := requestNamesUptoRow, standIns := [], harness := (true, "5d7fceb5615afb61665564c3169ebe9004616e26e45047bd93800911d3a54610"), looks := true }, kinds := [], alts := [], laidByText := true, laidKinds := [.handle, .data], laidTests := true, laidLooks := .later }
def RequestNamesUptoCardSaid : Prop := Claim7.holds Tryd.pinned (.plain (OpenSpec.upto requestNamesSpec)) requestNamesUptoCard

/-- THE SECOND FORM's CARD OF 'bursarylaw32.RequestForms'. -/
def requestFormsUptoCard : Claim7 := { stood := { row := requestFormsUptoRow, standIns := [], harness := (true, "5d7fceb5615afb61665564c3169ebe9004616e26e45047bd93800911d3a54610"), looks := true }, kinds := [], alts := [], laidByText := true, laidKinds := [.handle, .data], laidTests := true, laidLooks := .later }
def RequestFormsUptoCardSaid : Prop := Claim7.holds Tryd.pinned (.plain (OpenSpec.upto requestFormsSpec)) requestFormsUptoCard

/-- THE SECOND FORM's CARD OF 'bursarylaw32.RequestBack'. -/
def requestBackUptoCard : Claim7 := { stood := { row := requestBackUptoRow, standIns := [], harness := (true, "5d7fceb5615afb61665564c3169ebe9004616e26e45047bd93800911d3a54610"), looks := true }, kinds := [], alts := [], laidByText := true, laidKinds := [.handle, .data], laidTests := true, laidLooks := .later }
def RequestBackUptoCardSaid : Prop := Claim7.holds Tryd.pinned (.plain (OpenSpec.upto requestBackSpec)) requestBackUptoCard

/-- THE SECOND FORM's CARD OF 'bursarylaw34.ChainGoes'. -/
def chainGoesUptoCard : Claim7 := { stood := { row := chainGoesUptoRow, standIns := [], harness := (true, "5d7fceb5615afb61665564c3169ebe9004616e26e45047bd93800911d3a54610"), looks := true }, kinds := [], alts := [], laidByText := true, laidKinds := [.data, .data, .handle], laidTests := true, laidLooks := .later }
def ChainGoesUptoCardSaid : Prop := Claim7.holds Tryd.pinned (.plain (OpenSpec.upto chainGoesSpec)) chainGoesUptoCard

/-- THE SECOND FORM's CARD OF 'bursarylaw34.ChainCuts'. -/
def chainCutsUptoCard : Claim7 := { stood := { row := chainCutsUptoRow, standIns := [], harness := (true, "5d7fceb5615afb61665564c3169ebe9004616e26e45047bd93800911d3a54610"), looks := true }, kinds := [], alts := [], laidByText := true, laidKinds := [.data, .data, .handle], laidTests := true, laidLooks := .later }
def ChainCutsUptoCardSaid : Prop := Claim7.holds Tryd.pinned (.plain (OpenSpec.upto chainCutsSpec)) chainCutsUptoCard

/-- THE SECOND FORM's CARD OF 'bursarylaw34.ChainApart'. -/
def chainApartUptoCard : Claim7 := { stood := { row := chainApartUptoRow, standIns := [], harness := (true, "5d7fceb5615afb61665564c3169ebe9004616e26e45047bd93800911d3a54610"), looks := true }, kinds := [], alts := [], laidByText := true, laidKinds := [.data, .data, .handle], laidTests := true, laidLooks := .later }
def ChainApartUptoCardSaid : Prop := Claim7.holds Tryd.pinned (.plain (OpenSpec.upto chainApartSpec)) chainApartUptoCard

/-- THE SECOND FORM's CARD OF 'bursarylaw34.ChainExact'. -/
def chainExactUptoCard : Claim7 := { stood := { row := chainExactUptoRow, standIns := [], harness := (true, "5d7fceb5615afb61665564c3169ebe9004616e26e45047bd93800911d3a54610"), looks := true }, kinds := [], alts := [], laidByText := true, laidKinds := [.data, .data, .handle], laidTests := true, laidLooks := .later }
def ChainExactUptoCardSaid : Prop := Claim7.holds Tryd.pinned (.plain (OpenSpec.upto chainExactSpec)) chainExactUptoCard

/-- THE SECOND FORM's CARD OF 'bursarylaw33.AuditMasks'. -/
def auditMasksUptoCard : Claim7 := { stood := { row := auditMasksUptoRow, standIns := [], harness := (true, "5d7fceb5615afb61665564c3169ebe9004616e26e45047bd93800911d3a54610"), looks := true }, kinds := [], alts := [], laidByText := true, laidKinds := [.data, .data, .handle, .data], laidTests := true, laidLooks := .later }
def AuditMasksUptoCardSaid : Prop := Claim7.holds Tryd.pinned (.plain (OpenSpec.upto auditMasksSpec)) auditMasksUptoCard

/-- THE SECOND FORM's CARD OF 'bursarylaw33.AuditForms'. -/
def auditFormsUptoCard : Claim7 := { stood := { row := auditFormsUptoRow, standIns := [], harness := (true, "5d7fceb5615afb61665564c3169ebe9004616e26e45047bd93800911d3a54610"), looks := true }, kinds := [], alts := [], laidByText := true, laidKinds := [.data, .data, .handle, .data], laidTests := true, laidLooks := .later }
def AuditFormsUptoCardSaid : Prop := Claim7.holds Tryd.pinned (.plain (OpenSpec.upto auditFormsSpec)) auditFormsUptoCard

/-- THE SECOND FORM's CARD OF 'bursarylaw33.AuditTold'. -/
def auditToldUptoCard : Claim7 := { stood := { row := auditToldUptoRow, standIns := [], harness := (true, "5d7fceb5615afb61665564c3169ebe9004616e26e45047bd93800911d3a54610"), looks := true }, kinds := [], alts := [], laidByText := true, laidKinds := [.data, .data, .handle, .data], laidTests := true, laidLooks := .later }
def AuditToldUptoCardSaid : Prop := Claim7.holds Tryd.pinned (.plain (OpenSpec.upto auditToldSpec)) auditToldUptoCard

/-- THE SECOND FORM's CARD OF 'bursarylaw33.AuditExact'. -/
def auditExactUptoCard : Claim7 := { stood := { row := auditExactUptoRow, standIns := [], harness := (true, "5d7fceb5615afb61665564c3169ebe9004616e26e45047bd93800911d3a54610"), looks := true }, kinds := [], alts := [], laidByText := true, laidKinds := [.data, .data, .handle, .data], laidTests := true, laidLooks := .later }
def AuditExactUptoCardSaid : Prop := Claim7.holds Tryd.pinned (.plain (OpenSpec.upto auditExactSpec)) auditExactUptoCard
end Rows
end Go.Proofs.YtmabhjifldafaaaDoor
