/-
  NARROWER THAN 'FOR EVERY INPUT', by the rows' own cells (each row's printed sentence says how): RequestNames: laid · RequestForms: laid · RequestBack: laid · ChainGoes: laid · ChainCuts: laid · ChainApart: laid · ChainExact: laid · AuditMasks: laid · AuditForms: laid · AuditTold: laid · AuditExact: laid.
  DERIVED. THE GIVEN ROWS OF THIS SEAT. 11 by the template 'for every input the law returns true; each argument reads behind the call as it read before'; 0 by the template 'total and deterministic' (their statements: YtmabhjifldafaaaDoorTotals.lean).
  GIVEN WITH THE SEED: the statements are not yours to turn. If you find one false, say at which input.
  Laid BY PROGRAM, IN A SANDBOX (cutbox-rows.mjs): the forced cells as the released guide's own fill.sh prints them over the translation 01c108185513a456… (all of the seat's roots in one cut). By AI agents, Wed Nov 11 2026. No macro, syntax, notation, axiom, sorry.
-/
import Derived.Test.YtmabhjifldafaaaDoorChecked
import GoSem.Claim
import GoSem.ClaimJoined
import GoSem.ClaimMapViews
import Derived.JoinedTies
import Derived.KernelRfl
namespace Go.Proofs.YtmabhjifldafaaaDoor
/- THE CELL 'sum', in the pinned program and in every row, IS THE sha256 OF THE DUMP (.gsa) THAT YtmabhjifldafaaaDoorProg.lean LOADS. Nothing in Lean hashes anything: it is a label: what it is worth is what the hold of that sum in a sandbox is worth. -/
noncomputable def Tryd.pinned : Pinned := { name := "ytmabhjifldafaaadoor", sum := "01c108185513a45692346fef140fa5e66e919866d13962907eb74cd62b7adba3", checked := Tryd.checked }
namespace Rows
def none {H : Type} : Left H := { results := [], args := [] }

/- WHAT THE LISTED PACKAGE-LEVEL VARIABLES READ AS WHEN THE CALL BEGINS. Each datum BY PROGRAM (the guide's laid-datum.mjs) off the statement by which the dump's own 'gosem.cut.vars' lays the variable. In a bare row this is a premise. The card (YtmabhjifldafaaaDoorCards.lean) ties it to the program's text. -/
def laid_errors_errorType {H : Type} : DataW H := .iface "internal/reflectlite.rtype" (.agg [.ptr (.lit (.string [101, 114, 114, 111, 114]))])
def laid_bursary_request_names {H : Type} : DataW H := .agg [.lit (.string []), .lit (.string [105, 110, 105, 116]), .lit (.string [117, 110, 115, 101, 97, 108]), .lit (.string [115, 101, 97, 108]), .lit (.string [115, 116, 97, 116, 117, 115]), .lit (.string [112, 117, 116]), .lit (.string [103, 101, 116]), .lit (.string [100, 101, 108, 101, 116, 101]), .lit (.string [117, 110, 100, 101, 108, 101, 116, 101]), .lit (.string [100, 101, 115, 116, 114, 111, 121]), .lit (.string [108, 105, 115, 116]), .lit (.string [112, 111, 108, 105, 99, 121, 45, 112, 117, 116]), .lit (.string [112, 111, 108, 105, 99, 121, 45, 103, 101, 116]), .lit (.string [112, 111, 108, 105, 99, 121, 45, 100, 101, 108]), .lit (.string [116, 111, 107, 101, 110, 45, 99, 114, 101, 97, 116, 101]), .lit (.string [116, 111, 107, 101, 110, 45, 114, 101, 110, 101, 119]), .lit (.string [116, 111, 107, 101, 110, 45, 114, 101, 118, 111, 107, 101]), .lit (.string [116, 111, 107, 101, 110, 45, 115, 101, 108, 102]), .lit (.string [108, 101, 97, 115, 101, 45, 105, 115, 115, 117, 101]), .lit (.string [108, 101, 97, 115, 101, 45, 114, 101, 110, 101, 119]), .lit (.string [108, 101, 97, 115, 101, 45, 114, 101, 118, 111, 107, 101]), .lit (.string [108, 101, 97, 115, 101, 45, 112, 114, 101, 102, 105, 120]), .lit (.string [114, 111, 116, 97, 116, 101]), .lit (.string [114, 101, 107, 101, 121, 45, 115, 116, 97, 114, 116]), .lit (.string [114, 101, 107, 101, 121, 45, 115, 104, 97, 114, 101]), .lit (.string [114, 101, 107, 101, 121, 45, 99, 97, 110, 99, 101, 108]), .lit (.string [114, 111, 111, 116, 45, 115, 116, 97, 114, 116]), .lit (.string [114, 111, 111, 116, 45, 115, 104, 97, 114, 101]), .lit (.string [114, 111, 111, 116, 45, 99, 97, 110, 99, 101, 108]), .lit (.string [97, 117, 100, 105, 116, 45, 104, 101, 97, 100])]
def laid_bursary_sha_first {H : Type} : DataW H := .agg [.lit (.int .u32 1779033703), .lit (.int .u32 3144134277), .lit (.int .u32 1013904242), .lit (.int .u32 2773480762), .lit (.int .u32 1359893119), .lit (.int .u32 2600822924), .lit (.int .u32 528734635), .lit (.int .u32 1541459225)]
def laid_bursary_sha_added {H : Type} : DataW H := .agg [.lit (.int .u32 1116352408), .lit (.int .u32 1899447441), .lit (.int .u32 3049323471), .lit (.int .u32 3921009573), .lit (.int .u32 961987163), .lit (.int .u32 1508970993), .lit (.int .u32 2453635748), .lit (.int .u32 2870763221), .lit (.int .u32 3624381080), .lit (.int .u32 310598401), .lit (.int .u32 607225278), .lit (.int .u32 1426881987), .lit (.int .u32 1925078388), .lit (.int .u32 2162078206), .lit (.int .u32 2614888103), .lit (.int .u32 3248222580), .lit (.int .u32 3835390401), .lit (.int .u32 4022224774), .lit (.int .u32 264347078), .lit (.int .u32 604807628), .lit (.int .u32 770255983), .lit (.int .u32 1249150122), .lit (.int .u32 1555081692), .lit (.int .u32 1996064986), .lit (.int .u32 2554220882), .lit (.int .u32 2821834349), .lit (.int .u32 2952996808), .lit (.int .u32 3210313671), .lit (.int .u32 3336571891), .lit (.int .u32 3584528711), .lit (.int .u32 113926993), .lit (.int .u32 338241895), .lit (.int .u32 666307205), .lit (.int .u32 773529912), .lit (.int .u32 1294757372), .lit (.int .u32 1396182291), .lit (.int .u32 1695183700), .lit (.int .u32 1986661051), .lit (.int .u32 2177026350), .lit (.int .u32 2456956037), .lit (.int .u32 2730485921), .lit (.int .u32 2820302411), .lit (.int .u32 3259730800), .lit (.int .u32 3345764771), .lit (.int .u32 3516065817), .lit (.int .u32 3600352804), .lit (.int .u32 4094571909), .lit (.int .u32 275423344), .lit (.int .u32 430227734), .lit (.int .u32 506948616), .lit (.int .u32 659060556), .lit (.int .u32 883997877), .lit (.int .u32 958139571), .lit (.int .u32 1322822218), .lit (.int .u32 1537002063), .lit (.int .u32 1747873779), .lit (.int .u32 1955562222), .lit (.int .u32 2024104815), .lit (.int .u32 2227730452), .lit (.int .u32 2361852424), .lit (.int .u32 2428436474), .lit (.int .u32 2756734187), .lit (.int .u32 3204031479), .lit (.int .u32 3329325298)]

/-- 'bursarylaw32.RequestNames': WHATEVER THE INPUT: true; the input reads as it did. -/
def requestNamesSpec : ChangeSpec := { name := "requestNames", fn := fun _ => fun
  | [d1, d2, d3] => { results := [.lit (.bool true)], args := [d1, d2, d3] }
  | _ => none }
def requestNamesRow : OpenClaim := { program := "ytmabhjifldafaaadoor", sum := "01c108185513a45692346fef140fa5e66e919866d13962907eb74cd62b7adba3", func := "bursary/bursarylaw32.RequestNames", spec := "requestNames", inPlace := ["internal/reflectlite.ValueOf", "(internal/reflectlite.Value).Type", "(internal/reflectlite.Value).IsNil", "internal/reflectlite.TypeOf", "(internal/reflectlite.Value).Elem", "(internal/reflectlite.Value).Set"], unfollowed := true, recurses := true, named := ["bursary/request.names", "errors.errorType"], apart := false, laid := [("errors.errorType", laid_errors_errorType), ("bursary/request.names", laid_bursary_request_names)] }
def RequestNamesSaid : Prop := requestNamesRow.holds Tryd.pinned (OpenSpec.ofChange requestNamesSpec)

/-- ITS FALSE NEIGHBOUR: 'it returns false'. Refute it at one input. -/
def requestNamesWrong : ChangeSpec := { name := "requestNames", fn := fun _ => fun
  | [d1, d2, d3] => { results := [.lit (.bool false)], args := [d1, d2, d3] }
  | _ => none }
def RequestNamesWrongFalsely : Prop := requestNamesRow.holds Tryd.pinned (OpenSpec.ofChange requestNamesWrong)

/-- 'bursarylaw32.RequestForms': WHATEVER THE INPUT: true; the input reads as it did. -/
def requestFormsSpec : ChangeSpec := { name := "requestForms", fn := fun _ => fun
  | [d1, d2, d3] => { results := [.lit (.bool true)], args := [d1, d2, d3] }
  | _ => none }
def requestFormsRow : OpenClaim := { program := "ytmabhjifldafaaadoor", sum := "01c108185513a45692346fef140fa5e66e919866d13962907eb74cd62b7adba3", func := "bursary/bursarylaw32.RequestForms", spec := "requestForms", inPlace := ["internal/reflectlite.ValueOf", "(internal/reflectlite.Value).Type", "(internal/reflectlite.Value).IsNil", "internal/reflectlite.TypeOf", "(internal/reflectlite.Value).Elem", "(internal/reflectlite.Value).Set"], unfollowed := true, recurses := true, named := ["errors.errorType", "bursary/request.names"], apart := false, laid := [("errors.errorType", laid_errors_errorType), ("bursary/request.names", laid_bursary_request_names)] }
def RequestFormsSaid : Prop := requestFormsRow.holds Tryd.pinned (OpenSpec.ofChange requestFormsSpec)

/-- ITS FALSE NEIGHBOUR: 'it returns false'. Refute it at one input. -/
def requestFormsWrong : ChangeSpec := { name := "requestForms", fn := fun _ => fun
  | [d1, d2, d3] => { results := [.lit (.bool false)], args := [d1, d2, d3] }
  | _ => none }
def RequestFormsWrongFalsely : Prop := requestFormsRow.holds Tryd.pinned (OpenSpec.ofChange requestFormsWrong)

/-- 'bursarylaw32.RequestBack': WHATEVER THE INPUT: true; the input reads as it did. -/
def requestBackSpec : ChangeSpec := { name := "requestBack", fn := fun _ => fun
  | [d1, d2, d3] => { results := [.lit (.bool true)], args := [d1, d2, d3] }
  | _ => none }
def requestBackRow : OpenClaim := { program := "ytmabhjifldafaaadoor", sum := "01c108185513a45692346fef140fa5e66e919866d13962907eb74cd62b7adba3", func := "bursary/bursarylaw32.RequestBack", spec := "requestBack", inPlace := ["internal/reflectlite.ValueOf", "(internal/reflectlite.Value).Type", "(internal/reflectlite.Value).IsNil", "internal/reflectlite.TypeOf", "(internal/reflectlite.Value).Elem", "(internal/reflectlite.Value).Set"], unfollowed := true, recurses := true, named := ["errors.errorType", "bursary/request.names"], apart := false, laid := [("errors.errorType", laid_errors_errorType), ("bursary/request.names", laid_bursary_request_names)] }
def RequestBackSaid : Prop := requestBackRow.holds Tryd.pinned (OpenSpec.ofChange requestBackSpec)

/-- ITS FALSE NEIGHBOUR: 'it returns false'. Refute it at one input. -/
def requestBackWrong : ChangeSpec := { name := "requestBack", fn := fun _ => fun
  | [d1, d2, d3] => { results := [.lit (.bool false)], args := [d1, d2, d3] }
  | _ => none }
def RequestBackWrongFalsely : Prop := requestBackRow.holds Tryd.pinned (OpenSpec.ofChange requestBackWrong)

/-- 'bursarylaw34.ChainGoes': WHATEVER THE INPUT: true; the input reads as it did. -/
def chainGoesSpec : ChangeSpec := { name := "chainGoes", fn := fun _ => fun
  | [d1, d2] => { results := [.lit (.bool true)], args := [d1, d2] }
  | _ => none }
def chainGoesRow : OpenClaim := { program := "ytmabhjifldafaaadoor", sum := "01c108185513a45692346fef140fa5e66e919866d13962907eb74cd62b7adba3", func := "bursary/bursarylaw34.ChainGoes", spec := "chainGoes", inPlace := ["internal/reflectlite.ValueOf", "(internal/reflectlite.Value).Type", "(internal/reflectlite.Value).IsNil", "internal/reflectlite.TypeOf", "(internal/reflectlite.Value).Elem", "(internal/reflectlite.Value).Set"], unfollowed := true, recurses := true, named := ["bursary/sha.first", "bursary/sha.added", "errors.errorType"], apart := false, laid := [("bursary/sha.first", laid_bursary_sha_first), ("bursary/sha.added", laid_bursary_sha_added), ("errors.errorType", laid_errors_errorType)] }
def ChainGoesSaid : Prop := chainGoesRow.holds Tryd.pinned (OpenSpec.ofChange chainGoesSpec)

/-- ITS FALSE NEIGHBOUR: 'it returns false'. Refute it at one input. -/
def chainGoesWrong : ChangeSpec := { name := "chainGoes", fn := fun _ => fun
  | [d1, d2] => { results := [.lit (.bool false)], args := [d1, d2] }
  | _ => none }
def ChainGoesWrongFalsely : Prop := chainGoesRow.holds Tryd.pinned (OpenSpec.ofChange chainGoesWrong)

/-- 'bursarylaw34.ChainCuts': WHATEVER THE INPUT: true; the input reads as it did. -/
def chainCutsSpec : ChangeSpec := { name := "chainCuts", fn := fun _ => fun
  | [d1, d2, d3] => { results := [.lit (.bool true)], args := [d1, d2, d3] }
  | _ => none }
def chainCutsRow : OpenClaim := { program := "ytmabhjifldafaaadoor", sum := "01c108185513a45692346fef140fa5e66e919866d13962907eb74cd62b7adba3", func := "bursary/bursarylaw34.ChainCuts", spec := "chainCuts", inPlace := ["internal/reflectlite.ValueOf", "(internal/reflectlite.Value).Type", "(internal/reflectlite.Value).IsNil", "internal/reflectlite.TypeOf", "(internal/reflectlite.Value).Elem", "(internal/reflectlite.Value).Set"], unfollowed := true, recurses := true, named := ["bursary/sha.first", "bursary/sha.added", "errors.errorType"], apart := false, laid := [("bursary/sha.first", laid_bursary_sha_first), ("bursary/sha.added", laid_bursary_sha_added), ("errors.errorType", laid_errors_errorType)] }
def ChainCutsSaid : Prop := chainCutsRow.holds Tryd.pinned (OpenSpec.ofChange chainCutsSpec)

/-- ITS FALSE NEIGHBOUR: 'it returns false'. Refute it at one input. -/
def chainCutsWrong : ChangeSpec := { name := "chainCuts", fn := fun _ => fun
  | [d1, d2, d3] => { results := [.lit (.bool false)], args := [d1, d2, d3] }
  | _ => none }
def ChainCutsWrongFalsely : Prop := chainCutsRow.holds Tryd.pinned (OpenSpec.ofChange chainCutsWrong)

/-- 'bursarylaw34.ChainApart': WHATEVER THE INPUT: true; the input reads as it did. -/
def chainApartSpec : ChangeSpec := { name := "chainApart", fn := fun _ => fun
  | [d1, d2, d3] => { results := [.lit (.bool true)], args := [d1, d2, d3] }
  | _ => none }
def chainApartRow : OpenClaim := { program := "ytmabhjifldafaaadoor", sum := "01c108185513a45692346fef140fa5e66e919866d13962907eb74cd62b7adba3", func := "bursary/bursarylaw34.ChainApart", spec := "chainApart", inPlace := ["internal/reflectlite.ValueOf", "(internal/reflectlite.Value).Type", "(internal/reflectlite.Value).IsNil", "internal/reflectlite.TypeOf", "(internal/reflectlite.Value).Elem", "(internal/reflectlite.Value).Set"], unfollowed := true, recurses := true, named := ["bursary/sha.first", "bursary/sha.added", "errors.errorType"], apart := false, laid := [("bursary/sha.first", laid_bursary_sha_first), ("bursary/sha.added", laid_bursary_sha_added), ("errors.errorType", laid_errors_errorType)] }
def ChainApartSaid : Prop := chainApartRow.holds Tryd.pinned (OpenSpec.ofChange chainApartSpec)

/-- ITS FALSE NEIGHBOUR: 'it returns false'. Refute it at one input. -/
def chainApartWrong : ChangeSpec := { name := "chainApart", fn := fun _ => fun
  | [d1, d2, d3] => { results := [.lit (.bool false)], args := [d1, d2, d3] }
  | _ => none }
def ChainApartWrongFalsely : Prop := chainApartRow.holds Tryd.pinned (OpenSpec.ofChange chainApartWrong)

/-- 'bursarylaw34.ChainExact': WHATEVER THE INPUT: true; the input reads as it did. -/
def chainExactSpec : ChangeSpec := { name := "chainExact", fn := fun _ => fun
  | [d1, d2, d3] => { results := [.lit (.bool true)], args := [d1, d2, d3] }
  | _ => none }
def chainExactRow : OpenClaim := { program := "ytmabhjifldafaaadoor", sum := "01c108185513a45692346fef140fa5e66e919866d13962907eb74cd62b7adba3", func := "bursary/bursarylaw34.ChainExact", spec := "chainExact", inPlace := ["internal/reflectlite.ValueOf", "(internal/reflectlite.Value).Type", "(internal/reflectlite.Value).IsNil", "internal/reflectlite.TypeOf", "(internal/reflectlite.Value).Elem", "(internal/reflectlite.Value).Set"], unfollowed := true, recurses := true, named := ["bursary/sha.first", "bursary/sha.added", "errors.errorType"], apart := false, laid := [("bursary/sha.first", laid_bursary_sha_first), ("bursary/sha.added", laid_bursary_sha_added), ("errors.errorType", laid_errors_errorType)] }
def ChainExactSaid : Prop := chainExactRow.holds Tryd.pinned (OpenSpec.ofChange chainExactSpec)

/-- ITS FALSE NEIGHBOUR: 'it returns false'. Refute it at one input. -/
def chainExactWrong : ChangeSpec := { name := "chainExact", fn := fun _ => fun
  | [d1, d2, d3] => { results := [.lit (.bool false)], args := [d1, d2, d3] }
  | _ => none }
def ChainExactWrongFalsely : Prop := chainExactRow.holds Tryd.pinned (OpenSpec.ofChange chainExactWrong)

/-- 'bursarylaw33.AuditMasks': WHATEVER THE INPUT: true; the input reads as it did. -/
def auditMasksSpec : ChangeSpec := { name := "auditMasks", fn := fun _ => fun
  | [d1, d2, d3] => { results := [.lit (.bool true)], args := [d1, d2, d3] }
  | _ => none }
def auditMasksRow : OpenClaim := { program := "ytmabhjifldafaaadoor", sum := "01c108185513a45692346fef140fa5e66e919866d13962907eb74cd62b7adba3", func := "bursary/bursarylaw33.AuditMasks", spec := "auditMasks", inPlace := ["internal/reflectlite.ValueOf", "(internal/reflectlite.Value).Type", "(internal/reflectlite.Value).IsNil", "internal/reflectlite.TypeOf", "(internal/reflectlite.Value).Elem", "(internal/reflectlite.Value).Set"], unfollowed := true, recurses := true, named := ["bursary/sha.first", "bursary/sha.added", "bursary/request.names", "errors.errorType"], apart := false, laid := [("bursary/sha.first", laid_bursary_sha_first), ("bursary/sha.added", laid_bursary_sha_added), ("errors.errorType", laid_errors_errorType), ("bursary/request.names", laid_bursary_request_names)] }
def AuditMasksSaid : Prop := auditMasksRow.holds Tryd.pinned (OpenSpec.ofChange auditMasksSpec)

/-- ITS FALSE NEIGHBOUR: 'it returns false'. Refute it at one input. -/
def auditMasksWrong : ChangeSpec := { name := "auditMasks", fn := fun _ => fun
  | [d1, d2, d3] => { results := [.lit (.bool false)], args := [d1, d2, d3] }
  | _ => none }
def AuditMasksWrongFalsely : Prop := auditMasksRow.holds Tryd.pinned (OpenSpec.ofChange auditMasksWrong)

/-- 'bursarylaw33.AuditForms': WHATEVER THE INPUT: true; the input reads as it did. -/
def auditFormsSpec : ChangeSpec := { name := "auditForms", fn := fun _ => fun
  | [d1, d2] => { results := [.lit (.bool true)], args := [d1, d2] }
  | _ => none }
def auditFormsRow : OpenClaim := { program := "ytmabhjifldafaaadoor", sum := "01c108185513a45692346fef140fa5e66e919866d13962907eb74cd62b7adba3", func := "bursary/bursarylaw33.AuditForms", spec := "auditForms", inPlace := ["internal/reflectlite.ValueOf", "(internal/reflectlite.Value).Type", "(internal/reflectlite.Value).IsNil", "internal/reflectlite.TypeOf", "(internal/reflectlite.Value).Elem", "(internal/reflectlite.Value).Set"], unfollowed := true, recurses := true, named := ["bursary/sha.first", "bursary/sha.added", "bursary/request.names", "errors.errorType"], apart := false, laid := [("bursary/sha.first", laid_bursary_sha_first), ("bursary/sha.added", laid_bursary_sha_added), ("errors.errorType", laid_errors_errorType), ("bursary/request.names", laid_bursary_request_names)] }
def AuditFormsSaid : Prop := auditFormsRow.holds Tryd.pinned (OpenSpec.ofChange auditFormsSpec)

/-- ITS FALSE NEIGHBOUR: 'it returns false'. Refute it at one input. -/
def auditFormsWrong : ChangeSpec := { name := "auditForms", fn := fun _ => fun
  | [d1, d2] => { results := [.lit (.bool false)], args := [d1, d2] }
  | _ => none }
def AuditFormsWrongFalsely : Prop := auditFormsRow.holds Tryd.pinned (OpenSpec.ofChange auditFormsWrong)

/-- 'bursarylaw33.AuditTold': WHATEVER THE INPUT: true; the input reads as it did. -/
def auditToldSpec : ChangeSpec := { name := "auditTold", fn := fun _ => fun
  | [d1, d2, d3] => { results := [.lit (.bool true)], args := [d1, d2, d3] }
  | _ => none }
def auditToldRow : OpenClaim := { program := "ytmabhjifldafaaadoor", sum := "01c108185513a45692346fef140fa5e66e919866d13962907eb74cd62b7adba3", func := "bursary/bursarylaw33.AuditTold", spec := "auditTold", inPlace := ["internal/reflectlite.ValueOf", "(internal/reflectlite.Value).Type", "(internal/reflectlite.Value).IsNil", "internal/reflectlite.TypeOf", "(internal/reflectlite.Value).Elem", "(internal/reflectlite.Value).Set"], unfollowed := true, recurses := true, named := ["bursary/sha.first", "bursary/sha.added", "bursary/request.names", "errors.errorType"], apart := false, laid := [("bursary/sha.first", laid_bursary_sha_first), ("bursary/sha.added", laid_bursary_sha_added), ("errors.errorType", laid_errors_errorType), ("bursary/request.names", laid_bursary_request_names)] }
def AuditToldSaid : Prop := auditToldRow.holds Tryd.pinned (OpenSpec.ofChange auditToldSpec)

/-- ITS FALSE NEIGHBOUR: 'it returns false'. Refute it at one input. -/
def auditToldWrong : ChangeSpec := { name := "auditTold", fn := fun _ => fun
  | [d1, d2, d3] => { results := [.lit (.bool false)], args := [d1, d2, d3] }
  | _ => none }
def AuditToldWrongFalsely : Prop := auditToldRow.holds Tryd.pinned (OpenSpec.ofChange auditToldWrong)

/-- 'bursarylaw33.AuditExact': WHATEVER THE INPUT: true; the input reads as it did. -/
def auditExactSpec : ChangeSpec := { name := "auditExact", fn := fun _ => fun
  | [d1, d2, d3] => { results := [.lit (.bool true)], args := [d1, d2, d3] }
  | _ => none }
def auditExactRow : OpenClaim := { program := "ytmabhjifldafaaadoor", sum := "01c108185513a45692346fef140fa5e66e919866d13962907eb74cd62b7adba3", func := "bursary/bursarylaw33.AuditExact", spec := "auditExact", inPlace := ["internal/reflectlite.ValueOf", "(internal/reflectlite.Value).Type", "(internal/reflectlite.Value).IsNil", "internal/reflectlite.TypeOf", "(internal/reflectlite.Value).Elem", "(internal/reflectlite.Value).Set"], unfollowed := true, recurses := true, named := ["bursary/sha.first", "bursary/sha.added", "bursary/request.names", "errors.errorType"], apart := false, laid := [("bursary/sha.first", laid_bursary_sha_first), ("bursary/sha.added", laid_bursary_sha_added), ("errors.errorType", laid_errors_errorType), ("bursary/request.names", laid_bursary_request_names)] }
def AuditExactSaid : Prop := auditExactRow.holds Tryd.pinned (OpenSpec.ofChange auditExactSpec)

/-- ITS FALSE NEIGHBOUR: 'it returns false'. Refute it at one input. -/
def auditExactWrong : ChangeSpec := { name := "auditExact", fn := fun _ => fun
  | [d1, d2, d3] => { results := [.lit (.bool false)], args := [d1, d2, d3] }
  | _ => none }
def AuditExactWrongFalsely : Prop := auditExactRow.holds Tryd.pinned (OpenSpec.ofChange auditExactWrong)

/- THE SECOND FORM. 'bulk': how many values and letters a reading holds, each counted each time it is reached (what is shared counts as often as it is met; a slice's spare places count too). A statement '..UptoSaid' is the law's where the arguments, and the package variables that the reading takes, are together of bulk at most 1048576: NARROWER than '..Said'. Prove '..Said' where nothing that the law and all that it calls make is longer than what came in: it says more and counts as full. Else prove '..UptoSaid'. A law counts once. -/
mutual
def uptoBulk {H : Type} : DataW H → Nat
  | .lit (.string bytes) => bytes.length + 1
  | .lit _ => 1
  | .nil => 1
  | .ptr d => uptoBulk d + 1
  | .slice elems spare => uptoBulkAll elems + uptoBulkAll spare + 1
  | .agg parts => uptoBulkAll parts + 1
  | .iface _ d => uptoBulk d + 1
  | .map entries => uptoBulkEntries entries + 1
  | .held _ => 1
def uptoBulkAll {H : Type} : List (DataW H) → Nat
  | [] => 0
  | d :: r => uptoBulk d + uptoBulkAll r
def uptoBulkEntries {H : Type} : List (Lit × DataW H) → Nat
  | [] => 0
  | x :: r => uptoBulkEntry x + uptoBulkEntries r
def uptoBulkEntry {H : Type} : Lit × DataW H → Nat
  | (.string bytes, d) => bytes.length + uptoBulk d + 1
  | (_, d) => uptoBulk d + 1
 end
def uptoSmall : (H : Type) → List (DataW H) → Bool := fun _ ds => decide (uptoBulkAll ds ≤ 1048576)
def OpenSpec.upto (s : _root_.Go.ChangeSpec) : _root_.Go.OpenSpec := { _root_.Go.OpenSpec.ofChange s with cond := some uptoSmall }

/-- 'bursarylaw32.RequestNames', WHERE WHAT IT READS IS OF BULK AT MOST 1048576: true; the input reads as it did. -/
def requestNamesUptoRow : OpenClaim := { program := "ytmabhjifldafaaadoor", sum := "01c108185513a45692346fef140fa5e66e919866d13962907eb74cd62b7adba3", func := "bursary/bursarylaw32.RequestNames", spec := "requestNames", inPlace := ["internal/reflectlite.ValueOf", "(internal/reflectlite.Value).Type", "(internal/reflectlite.Value).IsNil", "internal/reflectlite.TypeOf", "(internal/reflectlite.Value).Elem", "(internal/reflectlite.Value).Set"], unfollowed := true, recurses := true, named := ["bursary/request.names", "errors.errorType"], apart := false, laid := [("errors.errorType", laid_errors_errorType), ("bursary/request.names", laid_bursary_request_names)], narrowed := true }
def RequestNamesUptoSaid : Prop := requestNamesUptoRow.holds Tryd.pinned (OpenSpec.upto requestNamesSpec)

/-- 'bursarylaw32.RequestForms', WHERE WHAT IT READS IS OF BULK AT MOST 1048576: true; the input reads as it did. -/
def requestFormsUptoRow : OpenClaim := { program := "ytmabhjifldafaaadoor", sum := "01c108185513a45692346fef140fa5e66e919866d13962907eb74cd62b7adba3", func := "bursary/bursarylaw32.RequestForms", spec := "requestForms", inPlace := ["internal/reflectlite.ValueOf", "(internal/reflectlite.Value).Type", "(internal/reflectlite.Value).IsNil", "internal/reflectlite.TypeOf", "(internal/reflectlite.Value).Elem", "(internal/reflectlite.Value).Set"], unfollowed := true, recurses := true, named := ["errors.errorType", "bursary/request.names"], apart := false, laid := [("errors.errorType", laid_errors_errorType), ("bursary/request.names", laid_bursary_request_names)], narrowed := true }
def RequestFormsUptoSaid : Prop := requestFormsUptoRow.holds Tryd.pinned (OpenSpec.upto requestFormsSpec)

/-- 'bursarylaw32.RequestBack', WHERE WHAT IT READS IS OF BULK AT MOST 1048576: true; the input reads as it did. -/
def requestBackUptoRow : OpenClaim := { program := "ytmabhjifldafaaadoor", sum := "01c108185513a45692346fef140fa5e66e919866d13962907eb74cd62b7adba3", func := "bursary/bursarylaw32.RequestBack", spec := "requestBack", inPlace := ["internal/reflectlite.ValueOf", "(internal/reflectlite.Value).Type", "(internal/reflectlite.Value).IsNil", "internal/reflectlite.TypeOf", "(internal/reflectlite.Value).Elem", "(internal/reflectlite.Value).Set"], unfollowed := true, recurses := true, named := ["errors.errorType", "bursary/request.names"], apart := false, laid := [("errors.errorType", laid_errors_errorType), ("bursary/request.names", laid_bursary_request_names)], narrowed := true }
def RequestBackUptoSaid : Prop := requestBackUptoRow.holds Tryd.pinned (OpenSpec.upto requestBackSpec)

/-- 'bursarylaw34.ChainGoes', WHERE WHAT IT READS IS OF BULK AT MOST 1048576: true; the input reads as it did. -/
def chainGoesUptoRow : OpenClaim := { program := "ytmabhjifldafaaadoor", sum := "01c108185513a45692346fef140fa5e66e919866d13962907eb74cd62b7adba3", func := "bursary/bursarylaw34.ChainGoes", spec := "chainGoes", inPlace := ["internal/reflectlite.ValueOf", "(internal/reflectlite.Value).Type", "(internal/reflectlite.Value).IsNil", "internal/reflectlite.TypeOf", "(internal/reflectlite.Value).Elem", "(internal/reflectlite.Value).Set"], unfollowed := true, recurses := true, named := ["bursary/sha.first", "bursary/sha.added", "errors.errorType"], apart := false, laid := [("bursary/sha.first", laid_bursary_sha_first), ("bursary/sha.added", laid_bursary_sha_added), ("errors.errorType", laid_errors_errorType)], narrowed := true }
def ChainGoesUptoSaid : Prop := chainGoesUptoRow.holds Tryd.pinned (OpenSpec.upto chainGoesSpec)

/-- 'bursarylaw34.ChainCuts', WHERE WHAT IT READS IS OF BULK AT MOST 1048576: true; the input reads as it did. -/
def chainCutsUptoRow : OpenClaim := { program := "ytmabhjifldafaaadoor", sum := "01c108185513a45692346fef140fa5e66e919866d13962907eb74cd62b7adba3", func := "bursary/bursarylaw34.ChainCuts", spec := "chainCuts", inPlace := ["internal/reflectlite.ValueOf", "(internal/reflectlite.Value).Type", "(internal/reflectlite.Value).IsNil", "internal/reflectlite.TypeOf", "(internal/reflectlite.Value).Elem", "(internal/reflectlite.Value).Set"], unfollowed := true, recurses := true, named := ["bursary/sha.first", "bursary/sha.added", "errors.errorType"], apart := false, laid := [("bursary/sha.first", laid_bursary_sha_first), ("bursary/sha.added", laid_bursary_sha_added), ("errors.errorType", laid_errors_errorType)], narrowed := true }
def ChainCutsUptoSaid : Prop := chainCutsUptoRow.holds Tryd.pinned (OpenSpec.upto chainCutsSpec)

/-- 'bursarylaw34.ChainApart', WHERE WHAT IT READS IS OF BULK AT MOST 1048576: true; the input reads as it did. -/
def chainApartUptoRow : OpenClaim := { program := "ytmabhjifldafaaadoor", sum := "01c108185513a45692346fef140fa5e66e919866d13962907eb74cd62b7adba3", func := "bursary/bursarylaw34.ChainApart", spec := "chainApart", inPlace := ["internal/reflectlite.ValueOf", "(internal/reflectlite.Value).Type", "(internal/reflectlite.Value).IsNil", "internal/reflectlite.TypeOf", "(internal/reflectlite.Value).Elem", "(internal/reflectlite.Value).Set"], unfollowed := true, recurses := true, named := ["bursary/sha.first", "bursary/sha.added", "errors.errorType"], apart := false, laid := [("bursary/sha.first", laid_bursary_sha_first), ("bursary/sha.added", laid_bursary_sha_added), ("errors.errorType", laid_errors_errorType)], narrowed := true }
def ChainApartUptoSaid : Prop := chainApartUptoRow.holds Tryd.pinned (OpenSpec.upto chainApartSpec)

/-- 'bursarylaw34.ChainExact', WHERE WHAT IT READS IS OF BULK AT MOST 1048576: true; the input reads as it did. -/
def chainExactUptoRow : OpenClaim := { program := "ytmabhjifldafaaadoor", sum := "01c108185513a45692346fef140fa5e66e919866d13962907eb74cd62b7adba3", func := "bursary/bursarylaw34.ChainExact", spec := "chainExact", inPlace := ["internal/reflectlite.ValueOf", "(internal/reflectlite.Value).Type", "(internal/reflectlite.Value).IsNil", "internal/reflectlite.TypeOf", "(internal/reflectlite.Value).Elem", "(internal/reflectlite.Value).Set"], unfollowed := true, recurses := true, named := ["bursary/sha.first", "bursary/sha.added", "errors.errorType"], apart := false, laid := [("bursary/sha.first", laid_bursary_sha_first), ("bursary/sha.added", laid_bursary_sha_added), ("errors.errorType", laid_errors_errorType)], narrowed := true }
def ChainExactUptoSaid : Prop := chainExactUptoRow.holds Tryd.pinned (OpenSpec.upto chainExactSpec)

/-- 'bursarylaw33.AuditMasks', WHERE WHAT IT READS IS OF BULK AT MOST 1048576: true; the input reads as it did. -/
def auditMasksUptoRow : OpenClaim := { program := "ytmabhjifldafaaadoor", sum := "01c108185513a45692346fef140fa5e66e919866d13962907eb74cd62b7adba3", func := "bursary/bursarylaw33.AuditMasks", spec := "auditMasks", inPlace := ["internal/reflectlite.ValueOf", "(internal/reflectlite.Value).Type", "(internal/reflectlite.Value).IsNil", "internal/reflectlite.TypeOf", "(internal/reflectlite.Value).Elem", "(internal/reflectlite.Value).Set"], unfollowed := true, recurses := true, named := ["bursary/sha.first", "bursary/sha.added", "bursary/request.names", "errors.errorType"], apart := false, laid := [("bursary/sha.first", laid_bursary_sha_first), ("bursary/sha.added", laid_bursary_sha_added), ("errors.errorType", laid_errors_errorType), ("bursary/request.names", laid_bursary_request_names)], narrowed := true }
def AuditMasksUptoSaid : Prop := auditMasksUptoRow.holds Tryd.pinned (OpenSpec.upto auditMasksSpec)

/-- 'bursarylaw33.AuditForms', WHERE WHAT IT READS IS OF BULK AT MOST 1048576: true; the input reads as it did. -/
def auditFormsUptoRow : OpenClaim := { program := "ytmabhjifldafaaadoor", sum := "01c108185513a45692346fef140fa5e66e919866d13962907eb74cd62b7adba3", func := "bursary/bursarylaw33.AuditForms", spec := "auditForms", inPlace := ["internal/reflectlite.ValueOf", "(internal/reflectlite.Value).Type", "(internal/reflectlite.Value).IsNil", "internal/reflectlite.TypeOf", "(internal/reflectlite.Value).Elem", "(internal/reflectlite.Value).Set"], unfollowed := true, recurses := true, named := ["bursary/sha.first", "bursary/sha.added", "bursary/request.names", "errors.errorType"], apart := false, laid := [("bursary/sha.first", laid_bursary_sha_first), ("bursary/sha.added", laid_bursary_sha_added), ("errors.errorType", laid_errors_errorType), ("bursary/request.names", laid_bursary_request_names)], narrowed := true }
def AuditFormsUptoSaid : Prop := auditFormsUptoRow.holds Tryd.pinned (OpenSpec.upto auditFormsSpec)

/-- 'bursarylaw33.AuditTold', WHERE WHAT IT READS IS OF BULK AT MOST 1048576: true; the input reads as it did. -/
def auditToldUptoRow : OpenClaim := { program := "ytmabhjifldafaaadoor", sum := "01c108185513a45692346fef140fa5e66e919866d13962907eb74cd62b7adba3", func := "bursary/bursarylaw33.AuditTold", spec := "auditTold", inPlace := ["internal/reflectlite.ValueOf", "(internal/reflectlite.Value).Type", "(internal/reflectlite.Value).IsNil", "internal/reflectlite.TypeOf", "(internal/reflectlite.Value).Elem", "(internal/reflectlite.Value).Set"], unfollowed := true, recurses := true, named := ["bursary/sha.first", "bursary/sha.added", "bursary/request.names", "errors.errorType"], apart := false, laid := [("bursary/sha.first", laid_bursary_sha_first), ("bursary/sha.added", laid_bursary_sha_added), ("errors.errorType", laid_errors_errorType), ("bursary/request.names", laid_bursary_request_names)], narrowed := true }
def AuditToldUptoSaid : Prop := auditToldUptoRow.holds Tryd.pinned (OpenSpec.upto auditToldSpec)

/-- 'bursarylaw33.AuditExact', WHERE WHAT IT READS IS OF BULK AT MOST 1048576: true; the input reads as it did. -/
def auditExactUptoRow : OpenClaim := { program := "ytmabhjifldafaaadoor", sum := "01c108185513a45692346fef140fa5e66e919866d13962907eb74cd62b7adba3", func := "bursary/bursarylaw33.AuditExact", spec := "auditExact", inPlace := ["internal/reflectlite.ValueOf", "(internal/reflectlite.Value).Type", "(internal/reflectlite.Value).IsNil", "internal/reflectlite.TypeOf", "(internal/reflectlite.Value).Elem", "(internal/reflectlite.Value).Set"], unfollowed := true, recurses := true, named := ["bursary/sha.first", "bursary/sha.added", "bursary/request.names", "errors.errorType"], apart := false, laid := [("bursary/sha.first", laid_bursary_sha_first), ("bursary/sha.added", laid_bursary_sha_added), ("errors.errorType", laid_errors_errorType), ("bursary/request.names", laid_bursary_request_names)], narrowed := true }
def AuditExactUptoSaid : Prop := auditExactUptoRow.holds Tryd.pinned (OpenSpec.upto auditExactSpec)

end Rows
end Go.Proofs.YtmabhjifldafaaaDoor
