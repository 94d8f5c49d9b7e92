/-
  No cell of these rows narrows 'for every input' (looked for: loops, veiled, ifaces, maps, wideKeys, modest, calm, conditions, laid).
  DERIVED. THE GIVEN ROWS OF THIS SEAT. 3 by the template 'for every input the law returns true; each argument reads behind the call as it read before'; 0 by the template 'total and deterministic' (their statements: YtafbfjnbajdbkaaTotals.lean).
  GIVEN WITH THE SEED: the statements are not yours to turn. If you find one false, say at which input.
  Laid BY PROGRAM, IN A SANDBOX (cutbox-rows.mjs): the forced cells as the released guide's own fill.sh prints them over the translation da9f022049410aa7… (all of the seat's roots in one cut). By AI agents, Wed Nov 11 2026. No macro, syntax, notation, axiom, sorry.
-/
import Derived.Test.YtafbfjnbajdbkaaChecked
import GoSem.Claim
import GoSem.ClaimJoined
import GoSem.ClaimMapViews
import Derived.JoinedTies
import Derived.KernelRfl
namespace Go.Proofs.Ytafbfjnbajdbkaa
/- THE CELL 'sum', in the pinned program and in every row, IS THE sha256 OF THE DUMP (.gsa) THAT YtafbfjnbajdbkaaProg.lean LOADS. Nothing in Lean hashes anything: it is a label: what it is worth is what the hold of that sum in a sandbox is worth. -/
noncomputable def Try.pinned : Pinned := { name := "ytafbfjnbajdbkaa", sum := "da9f022049410aa7eda7624b86611cc4ab1ed4924eed4e4c75e1225e6e88775e", checked := Try.checked }
namespace Rows
def none {H : Type} : Left H := { results := [], args := [] }

/-- 'bursarylaw10.GhashExact': WHATEVER THE INPUT: true; the input reads as it did. -/
def ghashExactSpec : ChangeSpec := { name := "ghashExact", fn := fun _ => fun
  | [d1, d2, d3] => { results := [.lit (.bool true)], args := [d1, d2, d3] }
  | _ => none }
def ghashExactRow : OpenClaim := { program := "ytafbfjnbajdbkaa", sum := "da9f022049410aa7eda7624b86611cc4ab1ed4924eed4e4c75e1225e6e88775e", func := "bursary/bursarylaw10.GhashExact", spec := "ghashExact", apart := false }
def GhashExactSaid : Prop := ghashExactRow.holds Try.pinned (OpenSpec.ofChange ghashExactSpec)

/-- ITS FALSE NEIGHBOUR: 'it returns false'. Refute it at one input. -/
def ghashExactWrong : ChangeSpec := { name := "ghashExact", fn := fun _ => fun
  | [d1, d2, d3] => { results := [.lit (.bool false)], args := [d1, d2, d3] }
  | _ => none }
def GhashExactWrongFalsely : Prop := ghashExactRow.holds Try.pinned (OpenSpec.ofChange ghashExactWrong)

/-- 'bursarylaw10.GhashField': WHATEVER THE INPUT: true; the input reads as it did. -/
def ghashFieldSpec : ChangeSpec := { name := "ghashField", fn := fun _ => fun
  | [d1, d2, d3] => { results := [.lit (.bool true)], args := [d1, d2, d3] }
  | _ => none }
def ghashFieldRow : OpenClaim := { program := "ytafbfjnbajdbkaa", sum := "da9f022049410aa7eda7624b86611cc4ab1ed4924eed4e4c75e1225e6e88775e", func := "bursary/bursarylaw10.GhashField", spec := "ghashField", apart := false }
def GhashFieldSaid : Prop := ghashFieldRow.holds Try.pinned (OpenSpec.ofChange ghashFieldSpec)

/-- ITS FALSE NEIGHBOUR: 'it returns false'. Refute it at one input. -/
def ghashFieldWrong : ChangeSpec := { name := "ghashField", fn := fun _ => fun
  | [d1, d2, d3] => { results := [.lit (.bool false)], args := [d1, d2, d3] }
  | _ => none }
def GhashFieldWrongFalsely : Prop := ghashFieldRow.holds Try.pinned (OpenSpec.ofChange ghashFieldWrong)

/-- 'bursarylaw10.GhashLinear': WHATEVER THE INPUT: true; the input reads as it did. -/
def ghashLinearSpec : ChangeSpec := { name := "ghashLinear", fn := fun _ => fun
  | [d1, d2, d3] => { results := [.lit (.bool true)], args := [d1, d2, d3] }
  | _ => none }
def ghashLinearRow : OpenClaim := { program := "ytafbfjnbajdbkaa", sum := "da9f022049410aa7eda7624b86611cc4ab1ed4924eed4e4c75e1225e6e88775e", func := "bursary/bursarylaw10.GhashLinear", spec := "ghashLinear", apart := false }
def GhashLinearSaid : Prop := ghashLinearRow.holds Try.pinned (OpenSpec.ofChange ghashLinearSpec)

/-- ITS FALSE NEIGHBOUR: 'it returns false'. Refute it at one input. -/
def ghashLinearWrong : ChangeSpec := { name := "ghashLinear", fn := fun _ => fun
  | [d1, d2, d3] => { results := [.lit (.bool false)], args := [d1, d2, d3] }
  | _ => none }
def GhashLinearWrongFalsely : Prop := ghashLinearRow.holds Try.pinned (OpenSpec.ofChange ghashLinearWrong)

/- THE SECOND FORM. 'bulk': how many values and letters a reading holds, each counted each time it is reached (what is shared counts as often as it is met; a slice's spare places count too). A statement '..UptoSaid' is the law's where the arguments, and the package variables that the reading takes, are together of bulk at most 1048576: NARROWER than '..Said'. Prove '..Said' where nothing that the law and all that it calls make is longer than what came in: it says more and counts as full. Else prove '..UptoSaid'. A law counts once. -/
mutual
def uptoBulk {H : Type} : DataW H → Nat
  | .lit (.string bytes) => bytes.length + 1
  | .lit _ => 1
  | .nil => 1
  | .ptr d => uptoBulk d + 1
  | .slice elems spare => uptoBulkAll elems + uptoBulkAll spare + 1
  | .agg parts => uptoBulkAll parts + 1
  | .iface _ d => uptoBulk d + 1
  | .map entries => uptoBulkEntries entries + 1
  | .held _ => 1
def uptoBulkAll {H : Type} : List (DataW H) → Nat
  | [] => 0
  | d :: r => uptoBulk d + uptoBulkAll r
def uptoBulkEntries {H : Type} : List (Lit × DataW H) → Nat
  | [] => 0
  | x :: r => uptoBulkEntry x + uptoBulkEntries r
def uptoBulkEntry {H : Type} : Lit × DataW H → Nat
  | (.string bytes, d) => bytes.length + uptoBulk d + 1
  | (_, d) => uptoBulk d + 1
 end
def uptoSmall : (H : Type) → List (DataW H) → Bool := fun _ ds => decide (uptoBulkAll ds ≤ 1048576)
def OpenSpec.upto (s : _root_.Go.ChangeSpec) : _root_.Go.OpenSpec := { _root_.Go.OpenSpec.ofChange s with cond := some uptoSmall }

/-- 'bursarylaw10.GhashExact', WHERE WHAT IT READS IS OF BULK AT MOST 1048576: true; the input reads as it did. -/
def ghashExactUptoRow : OpenClaim := { program := "ytafbfjnbajdbkaa", sum := "da9f022049410aa7eda7624b86611cc4ab1ed4924eed4e4c75e1225e6e88775e", func := "bursary/bursarylaw10.GhashExact", spec := "ghashExact", apart := false, narrowed := true }
def GhashExactUptoSaid : Prop := ghashExactUptoRow.holds Try.pinned (OpenSpec.upto ghashExactSpec)

/-- 'bursarylaw10.GhashField', WHERE WHAT IT READS IS OF BULK AT MOST 1048576: true; the input reads as it did. -/
def ghashFieldUptoRow : OpenClaim := { program := "ytafbfjnbajdbkaa", sum := "da9f022049410aa7eda7624b86611cc4ab1ed4924eed4e4c75e1225e6e88775e", func := "bursary/bursarylaw10.GhashField", spec := "ghashField", apart := false, narrowed := true }
def GhashFieldUptoSaid : Prop := ghashFieldUptoRow.holds Try.pinned (OpenSpec.upto ghashFieldSpec)

/-- 'bursarylaw10.GhashLinear', WHERE WHAT IT READS IS OF BULK AT MOST 1048576: true; the input reads as it did. -/
def ghashLinearUptoRow : OpenClaim := { program := "ytafbfjnbajdbkaa", sum := "da9f022049410aa7eda7624b86611cc4ab1ed4924eed4e4c75e1225e6e88775e", func := "bursary/bursarylaw10.GhashLinear", spec := "ghashLinear", apart := false, narrowed := true }
def GhashLinearUptoSaid : Prop := ghashLinearUptoRow.holds Try.pinned (OpenSpec.upto ghashLinearSpec)

end Rows
end Go.Proofs.Ytafbfjnbajdbkaa
