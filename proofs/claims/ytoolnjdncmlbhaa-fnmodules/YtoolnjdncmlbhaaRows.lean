/-
  No cell of these rows narrows 'for every input' (looked for: loops, veiled, ifaces, maps, wideKeys, modest, calm, conditions, laid).
  DERIVED. THE GIVEN ROWS OF THIS SEAT. 6 by the template 'for every input the law returns true; each argument reads behind the call as it read before'; 0 by the template 'total and deterministic' (their statements: YtoolnjdncmlbhaaTotals.lean).
  GIVEN WITH THE SEED: the statements are not yours to turn. If you find one false, say at which input.
  Laid BY PROGRAM, IN A SANDBOX (cutbox-rows.mjs): the forced cells as the released guide's own fill.sh prints them over the translation 4f761298270737e2… (all of the seat's roots in one cut). By AI agents, Wed Nov 11 2026. No macro, syntax, notation, axiom, sorry.
-/
import Derived.Test.YtoolnjdncmlbhaaChecked
import GoSem.Claim
import GoSem.ClaimJoined
import GoSem.ClaimMapViews
import Derived.JoinedTies
import Derived.KernelRfl
namespace Go.Proofs.Ytoolnjdncmlbhaa
/- THE CELL 'sum', in the pinned program and in every row, IS THE sha256 OF THE DUMP (.gsa) THAT YtoolnjdncmlbhaaProg.lean LOADS. Nothing in Lean hashes anything: it is a label: what it is worth is what the hold of that sum in a sandbox is worth. -/
noncomputable def Try.pinned : Pinned := { name := "ytoolnjdncmlbhaa", sum := "4f761298270737e21eb8d6fae52d2a455591e31d7f82e5d8b6a33ef701f86c5c", checked := Try.checked }
namespace Rows
def none {H : Type} : Left H := { results := [], args := [] }

/-- 'laws.FnModules': WHATEVER THE INPUT: true; the input reads as it did. -/
def fnModulesSpec : ChangeSpec := { name := "fnModules", fn := fun _ => fun
  | [d] => { results := [.lit (.bool true)], args := [d] }
  | _ => none }
def fnModulesRow : OpenClaim := { program := "ytoolnjdncmlbhaa", sum := "4f761298270737e21eb8d6fae52d2a455591e31d7f82e5d8b6a33ef701f86c5c", func := "loop.example/g00363/laws.FnModules", spec := "fnModules", unfollowed := true, recurses := true, apart := false }
def FnModulesSaid : Prop := fnModulesRow.holds Try.pinned (OpenSpec.ofChange fnModulesSpec)

/-- ITS FALSE NEIGHBOUR: 'it returns false'. Refute it at one input. -/
def fnModulesWrong : ChangeSpec := { name := "fnModules", fn := fun _ => fun
  | [d] => { results := [.lit (.bool false)], args := [d] }
  | _ => none }
def FnModulesWrongFalsely : Prop := fnModulesRow.holds Try.pinned (OpenSpec.ofChange fnModulesWrong)

/-- 'laws.FnCutModule': WHATEVER THE INPUT: true; the input reads as it did. -/
def fnCutModuleSpec : ChangeSpec := { name := "fnCutModule", fn := fun _ => fun
  | [d] => { results := [.lit (.bool true)], args := [d] }
  | _ => none }
def fnCutModuleRow : OpenClaim := { program := "ytoolnjdncmlbhaa", sum := "4f761298270737e21eb8d6fae52d2a455591e31d7f82e5d8b6a33ef701f86c5c", func := "loop.example/g00363/laws.FnCutModule", spec := "fnCutModule", unfollowed := true, recurses := true, apart := false }
def FnCutModuleSaid : Prop := fnCutModuleRow.holds Try.pinned (OpenSpec.ofChange fnCutModuleSpec)

/-- ITS FALSE NEIGHBOUR: 'it returns false'. Refute it at one input. -/
def fnCutModuleWrong : ChangeSpec := { name := "fnCutModule", fn := fun _ => fun
  | [d] => { results := [.lit (.bool false)], args := [d] }
  | _ => none }
def FnCutModuleWrongFalsely : Prop := fnCutModuleRow.holds Try.pinned (OpenSpec.ofChange fnCutModuleWrong)

/-- 'laws.FnExactModuleOk': WHATEVER THE INPUT: true; the input reads as it did. -/
def fnExactModuleOkSpec : ChangeSpec := { name := "fnExactModuleOk", fn := fun _ => fun
  | [d] => { results := [.lit (.bool true)], args := [d] }
  | _ => none }
def fnExactModuleOkRow : OpenClaim := { program := "ytoolnjdncmlbhaa", sum := "4f761298270737e21eb8d6fae52d2a455591e31d7f82e5d8b6a33ef701f86c5c", func := "loop.example/g00363/laws.FnExactModuleOk", spec := "fnExactModuleOk", apart := false }
def FnExactModuleOkSaid : Prop := fnExactModuleOkRow.holds Try.pinned (OpenSpec.ofChange fnExactModuleOkSpec)

/-- ITS FALSE NEIGHBOUR: 'it returns false'. Refute it at one input. -/
def fnExactModuleOkWrong : ChangeSpec := { name := "fnExactModuleOk", fn := fun _ => fun
  | [d] => { results := [.lit (.bool false)], args := [d] }
  | _ => none }
def FnExactModuleOkWrongFalsely : Prop := fnExactModuleOkRow.holds Try.pinned (OpenSpec.ofChange fnExactModuleOkWrong)

/-- 'laws.FnExactShowModule': WHATEVER THE INPUT: true; the input reads as it did. -/
def fnExactShowModuleSpec : ChangeSpec := { name := "fnExactShowModule", fn := fun _ => fun
  | [d] => { results := [.lit (.bool true)], args := [d] }
  | _ => none }
def fnExactShowModuleRow : OpenClaim := { program := "ytoolnjdncmlbhaa", sum := "4f761298270737e21eb8d6fae52d2a455591e31d7f82e5d8b6a33ef701f86c5c", func := "loop.example/g00363/laws.FnExactShowModule", spec := "fnExactShowModule", unfollowed := true, recurses := true, apart := false }
def FnExactShowModuleSaid : Prop := fnExactShowModuleRow.holds Try.pinned (OpenSpec.ofChange fnExactShowModuleSpec)

/-- ITS FALSE NEIGHBOUR: 'it returns false'. Refute it at one input. -/
def fnExactShowModuleWrong : ChangeSpec := { name := "fnExactShowModule", fn := fun _ => fun
  | [d] => { results := [.lit (.bool false)], args := [d] }
  | _ => none }
def FnExactShowModuleWrongFalsely : Prop := fnExactShowModuleRow.holds Try.pinned (OpenSpec.ofChange fnExactShowModuleWrong)

/-- 'laws.FnExactReadModule': WHATEVER THE INPUT: true; the input reads as it did. -/
def fnExactReadModuleSpec : ChangeSpec := { name := "fnExactReadModule", fn := fun _ => fun
  | [d] => { results := [.lit (.bool true)], args := [d] }
  | _ => none }
def fnExactReadModuleRow : OpenClaim := { program := "ytoolnjdncmlbhaa", sum := "4f761298270737e21eb8d6fae52d2a455591e31d7f82e5d8b6a33ef701f86c5c", func := "loop.example/g00363/laws.FnExactReadModule", spec := "fnExactReadModule", unfollowed := true, recurses := true, apart := false }
def FnExactReadModuleSaid : Prop := fnExactReadModuleRow.holds Try.pinned (OpenSpec.ofChange fnExactReadModuleSpec)

/-- ITS FALSE NEIGHBOUR: 'it returns false'. Refute it at one input. -/
def fnExactReadModuleWrong : ChangeSpec := { name := "fnExactReadModule", fn := fun _ => fun
  | [d] => { results := [.lit (.bool false)], args := [d] }
  | _ => none }
def FnExactReadModuleWrongFalsely : Prop := fnExactReadModuleRow.holds Try.pinned (OpenSpec.ofChange fnExactReadModuleWrong)

/-- 'laws.FnExactWidth': WHATEVER THE INPUT: true; the input reads as it did. -/
def fnExactWidthSpec : ChangeSpec := { name := "fnExactWidth", fn := fun _ => fun
  | [d] => { results := [.lit (.bool true)], args := [d] }
  | _ => none }
def fnExactWidthRow : OpenClaim := { program := "ytoolnjdncmlbhaa", sum := "4f761298270737e21eb8d6fae52d2a455591e31d7f82e5d8b6a33ef701f86c5c", func := "loop.example/g00363/laws.FnExactWidth", spec := "fnExactWidth", apart := false }
def FnExactWidthSaid : Prop := fnExactWidthRow.holds Try.pinned (OpenSpec.ofChange fnExactWidthSpec)

/-- ITS FALSE NEIGHBOUR: 'it returns false'. Refute it at one input. -/
def fnExactWidthWrong : ChangeSpec := { name := "fnExactWidth", fn := fun _ => fun
  | [d] => { results := [.lit (.bool false)], args := [d] }
  | _ => none }
def FnExactWidthWrongFalsely : Prop := fnExactWidthRow.holds Try.pinned (OpenSpec.ofChange fnExactWidthWrong)

/- THE SECOND FORM. 'bulk': how many values and letters a reading holds, each counted each time it is reached (what is shared counts as often as it is met; a slice's spare places count too). A statement '..UptoSaid' is the law's where the arguments, and the package variables that the reading takes, are together of bulk at most 1048576: NARROWER than '..Said'. Prove '..Said' where nothing that the law and all that it calls make is longer than what came in: it says more and counts as full. Else prove '..UptoSaid'. A law counts once. -/
mutual
def uptoBulk {H : Type} : DataW H → Nat
  | .lit (.string bytes) => bytes.length + 1
  | .lit _ => 1
  | .nil => 1
  | .ptr d => uptoBulk d + 1
  | .slice elems spare => uptoBulkAll elems + uptoBulkAll spare + 1
  | .agg parts => uptoBulkAll parts + 1
  | .iface _ d => uptoBulk d + 1
  | .map entries => uptoBulkEntries entries + 1
  | .held _ => 1
def uptoBulkAll {H : Type} : List (DataW H) → Nat
  | [] => 0
  | d :: r => uptoBulk d + uptoBulkAll r
def uptoBulkEntries {H : Type} : List (Lit × DataW H) → Nat
  | [] => 0
  | x :: r => uptoBulkEntry x + uptoBulkEntries r
def uptoBulkEntry {H : Type} : Lit × DataW H → Nat
  | (.string bytes, d) => bytes.length + uptoBulk d + 1
  | (_, d) => uptoBulk d + 1
 end
def uptoSmall : (H : Type) → List (DataW H) → Bool := fun _ ds => decide (uptoBulkAll ds ≤ 1048576)
def OpenSpec.upto (s : _root_.Go.ChangeSpec) : _root_.Go.OpenSpec := { _root_.Go.OpenSpec.ofChange s with cond := some uptoSmall }

/-- 'laws.FnModules', WHERE WHAT IT READS IS OF BULK AT MOST 1048576: true; the input reads as it did. -/
def fnModulesUptoRow : OpenClaim := { program := "ytoolnjdncmlbhaa", sum := "4f761298270737e21eb8d6fae52d2a455591e31d7f82e5d8b6a33ef701f86c5c", func := "loop.example/g00363/laws.FnModules", spec := "fnModules", unfollowed := true, recurses := true, apart := false, narrowed := true }
def FnModulesUptoSaid : Prop := fnModulesUptoRow.holds Try.pinned (OpenSpec.upto fnModulesSpec)

/-- 'laws.FnCutModule', WHERE WHAT IT READS IS OF BULK AT MOST 1048576: true; the input reads as it did. -/
def fnCutModuleUptoRow : OpenClaim := { program := "ytoolnjdncmlbhaa", sum := "4f761298270737e21eb8d6fae52d2a455591e31d7f82e5d8b6a33ef701f86c5c", func := "loop.example/g00363/laws.FnCutModule", spec := "fnCutModule", unfollowed := true, recurses := true, apart := false, narrowed := true }
def FnCutModuleUptoSaid : Prop := fnCutModuleUptoRow.holds Try.pinned (OpenSpec.upto fnCutModuleSpec)

/-- 'laws.FnExactModuleOk', WHERE WHAT IT READS IS OF BULK AT MOST 1048576: true; the input reads as it did. -/
def fnExactModuleOkUptoRow : OpenClaim := { program := "ytoolnjdncmlbhaa", sum := "4f761298270737e21eb8d6fae52d2a455591e31d7f82e5d8b6a33ef701f86c5c", func := "loop.example/g00363/laws.FnExactModuleOk", spec := "fnExactModuleOk", apart := false, narrowed := true }
def FnExactModuleOkUptoSaid : Prop := fnExactModuleOkUptoRow.holds Try.pinned (OpenSpec.upto fnExactModuleOkSpec)

/-- 'laws.FnExactShowModule', WHERE WHAT IT READS IS OF BULK AT MOST 1048576: true; the input reads as it did. -/
def fnExactShowModuleUptoRow : OpenClaim := { program := "ytoolnjdncmlbhaa", sum := "4f761298270737e21eb8d6fae52d2a455591e31d7f82e5d8b6a33ef701f86c5c", func := "loop.example/g00363/laws.FnExactShowModule", spec := "fnExactShowModule", unfollowed := true, recurses := true, apart := false, narrowed := true }
def FnExactShowModuleUptoSaid : Prop := fnExactShowModuleUptoRow.holds Try.pinned (OpenSpec.upto fnExactShowModuleSpec)

/-- 'laws.FnExactReadModule', WHERE WHAT IT READS IS OF BULK AT MOST 1048576: true; the input reads as it did. -/
def fnExactReadModuleUptoRow : OpenClaim := { program := "ytoolnjdncmlbhaa", sum := "4f761298270737e21eb8d6fae52d2a455591e31d7f82e5d8b6a33ef701f86c5c", func := "loop.example/g00363/laws.FnExactReadModule", spec := "fnExactReadModule", unfollowed := true, recurses := true, apart := false, narrowed := true }
def FnExactReadModuleUptoSaid : Prop := fnExactReadModuleUptoRow.holds Try.pinned (OpenSpec.upto fnExactReadModuleSpec)

/-- 'laws.FnExactWidth', WHERE WHAT IT READS IS OF BULK AT MOST 1048576: true; the input reads as it did. -/
def fnExactWidthUptoRow : OpenClaim := { program := "ytoolnjdncmlbhaa", sum := "4f761298270737e21eb8d6fae52d2a455591e31d7f82e5d8b6a33ef701f86c5c", func := "loop.example/g00363/laws.FnExactWidth", spec := "fnExactWidth", apart := false, narrowed := true }
def FnExactWidthUptoSaid : Prop := fnExactWidthUptoRow.holds Try.pinned (OpenSpec.upto fnExactWidthSpec)

end Rows
end Go.Proofs.Ytoolnjdncmlbhaa
