/-
  No cell of these rows narrows 'for every input' (looked for: loops, veiled, ifaces, maps, wideKeys, modest, calm, conditions, laid).
  DERIVED. THE GIVEN ROWS OF THIS SEAT. 6 by the template 'for every input the law returns true; each argument reads behind the call as it read before'; 0 by the template 'total and deterministic' (their statements: YtfndpbdhcackpaaTotals.lean).
  GIVEN WITH THE SEED: the statements are not yours to turn. If you find one false, say at which input.
  Laid BY PROGRAM, IN A SANDBOX (cutbox-rows.mjs): the forced cells as the released guide's own fill.sh prints them over the translation cfdf57af7575c760… (all of the seat's roots in one cut). By AI agents, Wed Nov 11 2026. No macro, syntax, notation, axiom, sorry.
-/
import Derived.Test.YtfndpbdhcackpaaChecked
import GoSem.Claim
import GoSem.ClaimJoined
import GoSem.ClaimMapViews
import Derived.JoinedTies
import Derived.KernelRfl
namespace Go.Proofs.Ytfndpbdhcackpaa
/- THE CELL 'sum', in the pinned program and in every row, IS THE sha256 OF THE DUMP (.gsa) THAT YtfndpbdhcackpaaProg.lean LOADS. Nothing in Lean hashes anything: it is a label: what it is worth is what the hold of that sum in a sandbox is worth. -/
noncomputable def Try.pinned : Pinned := { name := "ytfndpbdhcackpaa", sum := "cfdf57af7575c760d4b1df62fdaf393aeb431e42008a9d2efa68fcfd6b821d3d", checked := Try.checked }
namespace Rows
def none {H : Type} : Left H := { results := [], args := [] }

/-- 'laws.FnNests': WHATEVER THE INPUT: true; the input reads as it did. -/
def fnNestsSpec : ChangeSpec := { name := "fnNests", fn := fun _ => fun
  | [d] => { results := [.lit (.bool true)], args := [d] }
  | _ => none }
def fnNestsRow : OpenClaim := { program := "ytfndpbdhcackpaa", sum := "cfdf57af7575c760d4b1df62fdaf393aeb431e42008a9d2efa68fcfd6b821d3d", func := "loop.example/g00363/laws.FnNests", spec := "fnNests", apart := false }
def FnNestsSaid : Prop := fnNestsRow.holds Try.pinned (OpenSpec.ofChange fnNestsSpec)

/-- ITS FALSE NEIGHBOUR: 'it returns false'. Refute it at one input. -/
def fnNestsWrong : ChangeSpec := { name := "fnNests", fn := fun _ => fun
  | [d] => { results := [.lit (.bool false)], args := [d] }
  | _ => none }
def FnNestsWrongFalsely : Prop := fnNestsRow.holds Try.pinned (OpenSpec.ofChange fnNestsWrong)

/-- 'laws.FnAround': WHATEVER THE INPUT: true; the input reads as it did. -/
def fnAroundSpec : ChangeSpec := { name := "fnAround", fn := fun _ => fun
  | [d] => { results := [.lit (.bool true)], args := [d] }
  | _ => none }
def fnAroundRow : OpenClaim := { program := "ytfndpbdhcackpaa", sum := "cfdf57af7575c760d4b1df62fdaf393aeb431e42008a9d2efa68fcfd6b821d3d", func := "loop.example/g00363/laws.FnAround", spec := "fnAround", apart := false }
def FnAroundSaid : Prop := fnAroundRow.holds Try.pinned (OpenSpec.ofChange fnAroundSpec)

/-- ITS FALSE NEIGHBOUR: 'it returns false'. Refute it at one input. -/
def fnAroundWrong : ChangeSpec := { name := "fnAround", fn := fun _ => fun
  | [d] => { results := [.lit (.bool false)], args := [d] }
  | _ => none }
def FnAroundWrongFalsely : Prop := fnAroundRow.holds Try.pinned (OpenSpec.ofChange fnAroundWrong)

/-- 'laws.FnExactNestOk': WHATEVER THE INPUT: true; the input reads as it did. -/
def fnExactNestOkSpec : ChangeSpec := { name := "fnExactNestOk", fn := fun _ => fun
  | [d] => { results := [.lit (.bool true)], args := [d] }
  | _ => none }
def fnExactNestOkRow : OpenClaim := { program := "ytfndpbdhcackpaa", sum := "cfdf57af7575c760d4b1df62fdaf393aeb431e42008a9d2efa68fcfd6b821d3d", func := "loop.example/g00363/laws.FnExactNestOk", spec := "fnExactNestOk", apart := false }
def FnExactNestOkSaid : Prop := fnExactNestOkRow.holds Try.pinned (OpenSpec.ofChange fnExactNestOkSpec)

/-- ITS FALSE NEIGHBOUR: 'it returns false'. Refute it at one input. -/
def fnExactNestOkWrong : ChangeSpec := { name := "fnExactNestOk", fn := fun _ => fun
  | [d] => { results := [.lit (.bool false)], args := [d] }
  | _ => none }
def FnExactNestOkWrongFalsely : Prop := fnExactNestOkRow.holds Try.pinned (OpenSpec.ofChange fnExactNestOkWrong)

/-- 'laws.FnExactEnds': WHATEVER THE INPUT: true; the input reads as it did. -/
def fnExactEndsSpec : ChangeSpec := { name := "fnExactEnds", fn := fun _ => fun
  | [d] => { results := [.lit (.bool true)], args := [d] }
  | _ => none }
def fnExactEndsRow : OpenClaim := { program := "ytfndpbdhcackpaa", sum := "cfdf57af7575c760d4b1df62fdaf393aeb431e42008a9d2efa68fcfd6b821d3d", func := "loop.example/g00363/laws.FnExactEnds", spec := "fnExactEnds", apart := false }
def FnExactEndsSaid : Prop := fnExactEndsRow.holds Try.pinned (OpenSpec.ofChange fnExactEndsSpec)

/-- ITS FALSE NEIGHBOUR: 'it returns false'. Refute it at one input. -/
def fnExactEndsWrong : ChangeSpec := { name := "fnExactEnds", fn := fun _ => fun
  | [d] => { results := [.lit (.bool false)], args := [d] }
  | _ => none }
def FnExactEndsWrongFalsely : Prop := fnExactEndsRow.holds Try.pinned (OpenSpec.ofChange fnExactEndsWrong)

/-- 'laws.FnExactElses': WHATEVER THE INPUT: true; the input reads as it did. -/
def fnExactElsesSpec : ChangeSpec := { name := "fnExactElses", fn := fun _ => fun
  | [d] => { results := [.lit (.bool true)], args := [d] }
  | _ => none }
def fnExactElsesRow : OpenClaim := { program := "ytfndpbdhcackpaa", sum := "cfdf57af7575c760d4b1df62fdaf393aeb431e42008a9d2efa68fcfd6b821d3d", func := "loop.example/g00363/laws.FnExactElses", spec := "fnExactElses", apart := false }
def FnExactElsesSaid : Prop := fnExactElsesRow.holds Try.pinned (OpenSpec.ofChange fnExactElsesSpec)

/-- ITS FALSE NEIGHBOUR: 'it returns false'. Refute it at one input. -/
def fnExactElsesWrong : ChangeSpec := { name := "fnExactElses", fn := fun _ => fun
  | [d] => { results := [.lit (.bool false)], args := [d] }
  | _ => none }
def FnExactElsesWrongFalsely : Prop := fnExactElsesRow.holds Try.pinned (OpenSpec.ofChange fnExactElsesWrong)

/-- 'laws.FnExactAround': WHATEVER THE INPUT: true; the input reads as it did. -/
def fnExactAroundSpec : ChangeSpec := { name := "fnExactAround", fn := fun _ => fun
  | [d1, d2] => { results := [.lit (.bool true)], args := [d1, d2] }
  | _ => none }
def fnExactAroundRow : OpenClaim := { program := "ytfndpbdhcackpaa", sum := "cfdf57af7575c760d4b1df62fdaf393aeb431e42008a9d2efa68fcfd6b821d3d", func := "loop.example/g00363/laws.FnExactAround", spec := "fnExactAround", apart := false }
def FnExactAroundSaid : Prop := fnExactAroundRow.holds Try.pinned (OpenSpec.ofChange fnExactAroundSpec)

/-- ITS FALSE NEIGHBOUR: 'it returns false'. Refute it at one input. -/
def fnExactAroundWrong : ChangeSpec := { name := "fnExactAround", fn := fun _ => fun
  | [d1, d2] => { results := [.lit (.bool false)], args := [d1, d2] }
  | _ => none }
def FnExactAroundWrongFalsely : Prop := fnExactAroundRow.holds Try.pinned (OpenSpec.ofChange fnExactAroundWrong)

/- THE SECOND FORM. 'bulk': how many values and letters a reading holds, each counted each time it is reached (what is shared counts as often as it is met; a slice's spare places count too). A statement '..UptoSaid' is the law's where the arguments, and the package variables that the reading takes, are together of bulk at most 1048576: NARROWER than '..Said'. Prove '..Said' where nothing that the law and all that it calls make is longer than what came in: it says more and counts as full. Else prove '..UptoSaid'. A law counts once. -/
mutual
def uptoBulk {H : Type} : DataW H → Nat
  | .lit (.string bytes) => bytes.length + 1
  | .lit _ => 1
  | .nil => 1
  | .ptr d => uptoBulk d + 1
  | .slice elems spare => uptoBulkAll elems + uptoBulkAll spare + 1
  | .agg parts => uptoBulkAll parts + 1
  | .iface _ d => uptoBulk d + 1
  | .map entries => uptoBulkEntries entries + 1
  | .held _ => 1
def uptoBulkAll {H : Type} : List (DataW H) → Nat
  | [] => 0
  | d :: r => uptoBulk d + uptoBulkAll r
def uptoBulkEntries {H : Type} : List (Lit × DataW H) → Nat
  | [] => 0
  | x :: r => uptoBulkEntry x + uptoBulkEntries r
def uptoBulkEntry {H : Type} : Lit × DataW H → Nat
  | (.string bytes, d) => bytes.length + uptoBulk d + 1
  | (_, d) => uptoBulk d + 1
 end
def uptoSmall : (H : Type) → List (DataW H) → Bool := fun _ ds => decide (uptoBulkAll ds ≤ 1048576)
def OpenSpec.upto (s : _root_.Go.ChangeSpec) : _root_.Go.OpenSpec := { _root_.Go.OpenSpec.ofChange s with cond := some uptoSmall }

/-- 'laws.FnNests', WHERE WHAT IT READS IS OF BULK AT MOST 1048576: true; the input reads as it did. -/
def fnNestsUptoRow : OpenClaim := { program := "ytfndpbdhcackpaa", sum := "cfdf57af7575c760d4b1df62fdaf393aeb431e42008a9d2efa68fcfd6b821d3d", func := "loop.example/g00363/laws.FnNests", spec := "fnNests", apart := false, narrowed := true }
def FnNestsUptoSaid : Prop := fnNestsUptoRow.holds Try.pinned (OpenSpec.upto fnNestsSpec)

/-- 'laws.FnAround', WHERE WHAT IT READS IS OF BULK AT MOST 1048576: true; the input reads as it did. -/
def fnAroundUptoRow : OpenClaim := { program := "ytfndpbdhcackpaa", sum := "cfdf57af7575c760d4b1df62fdaf393aeb431e42008a9d2efa68fcfd6b821d3d", func := "loop.example/g00363/laws.FnAround", spec := "fnAround", apart := false, narrowed := true }
def FnAroundUptoSaid : Prop := fnAroundUptoRow.holds Try.pinned (OpenSpec.upto fnAroundSpec)

/-- 'laws.FnExactNestOk', WHERE WHAT IT READS IS OF BULK AT MOST 1048576: true; the input reads as it did. -/
def fnExactNestOkUptoRow : OpenClaim := { program := "ytfndpbdhcackpaa", sum := "cfdf57af7575c760d4b1df62fdaf393aeb431e42008a9d2efa68fcfd6b821d3d", func := "loop.example/g00363/laws.FnExactNestOk", spec := "fnExactNestOk", apart := false, narrowed := true }
def FnExactNestOkUptoSaid : Prop := fnExactNestOkUptoRow.holds Try.pinned (OpenSpec.upto fnExactNestOkSpec)

/-- 'laws.FnExactEnds', WHERE WHAT IT READS IS OF BULK AT MOST 1048576: true; the input reads as it did. -/
def fnExactEndsUptoRow : OpenClaim := { program := "ytfndpbdhcackpaa", sum := "cfdf57af7575c760d4b1df62fdaf393aeb431e42008a9d2efa68fcfd6b821d3d", func := "loop.example/g00363/laws.FnExactEnds", spec := "fnExactEnds", apart := false, narrowed := true }
def FnExactEndsUptoSaid : Prop := fnExactEndsUptoRow.holds Try.pinned (OpenSpec.upto fnExactEndsSpec)

/-- 'laws.FnExactElses', WHERE WHAT IT READS IS OF BULK AT MOST 1048576: true; the input reads as it did. -/
def fnExactElsesUptoRow : OpenClaim := { program := "ytfndpbdhcackpaa", sum := "cfdf57af7575c760d4b1df62fdaf393aeb431e42008a9d2efa68fcfd6b821d3d", func := "loop.example/g00363/laws.FnExactElses", spec := "fnExactElses", apart := false, narrowed := true }
def FnExactElsesUptoSaid : Prop := fnExactElsesUptoRow.holds Try.pinned (OpenSpec.upto fnExactElsesSpec)

/-- 'laws.FnExactAround', WHERE WHAT IT READS IS OF BULK AT MOST 1048576: true; the input reads as it did. -/
def fnExactAroundUptoRow : OpenClaim := { program := "ytfndpbdhcackpaa", sum := "cfdf57af7575c760d4b1df62fdaf393aeb431e42008a9d2efa68fcfd6b821d3d", func := "loop.example/g00363/laws.FnExactAround", spec := "fnExactAround", apart := false, narrowed := true }
def FnExactAroundUptoSaid : Prop := fnExactAroundUptoRow.holds Try.pinned (OpenSpec.upto fnExactAroundSpec)

end Rows
end Go.Proofs.Ytfndpbdhcackpaa
