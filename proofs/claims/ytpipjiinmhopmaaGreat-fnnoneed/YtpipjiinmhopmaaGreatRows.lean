/-
  No cell of these rows narrows 'for every input' (looked for: loops, veiled, ifaces, maps, wideKeys, modest, calm, conditions, laid).
  DERIVED. THE GIVEN ROWS OF THIS SEAT. 3 by the template 'for every input the law returns true; each argument reads behind the call as it read before'; 0 by the template 'total and deterministic' (their statements: YtpipjiinmhopmaaGreatTotals.lean).
  GIVEN WITH THE SEED: the statements are not yours to turn. If you find one false, say at which input.
  Laid BY PROGRAM, IN A SANDBOX (cutbox-rows.mjs): the forced cells as the released guide's own fill.sh prints them over the translation f2aade593372a975… (all of the seat's roots in one cut). By AI agents, Wed Nov 11 2026. No macro, syntax, notation, axiom, sorry.
-/
import Derived.Test.YtpipjiinmhopmaaGreatChecked
import GoSem.Claim
import GoSem.ClaimJoined
import GoSem.ClaimMapViews
import Derived.JoinedTies
import Derived.KernelRfl
namespace Go.Proofs.YtpipjiinmhopmaaGreat
/- THE CELL 'sum', in the pinned program and in every row, IS THE sha256 OF THE DUMP (.gsa) THAT YtpipjiinmhopmaaGreatProg.lean LOADS. Nothing in Lean hashes anything: it is a label: what it is worth is what the hold of that sum in a sandbox is worth. -/
noncomputable def Tryz.pinned : Pinned := { name := "ytpipjiinmhopmaagreat", sum := "f2aade593372a97511529068212a47673c04cde2bc6a99b5c51664de5a4763b8", checked := Tryz.checked }
namespace Rows
def none {H : Type} : Left H := { results := [], args := [] }

/-- 'laws.FnHomes': WHATEVER THE INPUT: true; the input reads as it did. -/
def fnHomesSpec : ChangeSpec := { name := "fnHomes", fn := fun _ => fun
  | [d] => { results := [.lit (.bool true)], args := [d] }
  | _ => none }
def fnHomesRow : OpenClaim := { program := "ytpipjiinmhopmaagreat", sum := "f2aade593372a97511529068212a47673c04cde2bc6a99b5c51664de5a4763b8", func := "loop.example/g00363/laws.FnHomes", spec := "fnHomes", unfollowed := true, recurses := true, apart := false }
def FnHomesSaid : Prop := fnHomesRow.holds Tryz.pinned (OpenSpec.ofChange fnHomesSpec)

/-- ITS FALSE NEIGHBOUR: 'it returns false'. Refute it at one input. -/
def fnHomesWrong : ChangeSpec := { name := "fnHomes", fn := fun _ => fun
  | [d] => { results := [.lit (.bool false)], args := [d] }
  | _ => none }
def FnHomesWrongFalsely : Prop := fnHomesRow.holds Tryz.pinned (OpenSpec.ofChange fnHomesWrong)

/-- 'laws.FnNoNeed': WHATEVER THE INPUT: true; the input reads as it did. -/
def fnNoNeedSpec : ChangeSpec := { name := "fnNoNeed", fn := fun _ => fun
  | [d] => { results := [.lit (.bool true)], args := [d] }
  | _ => none }
def fnNoNeedRow : OpenClaim := { program := "ytpipjiinmhopmaagreat", sum := "f2aade593372a97511529068212a47673c04cde2bc6a99b5c51664de5a4763b8", func := "loop.example/g00363/laws.FnNoNeed", spec := "fnNoNeed", unfollowed := true, recurses := true, apart := false }
def FnNoNeedSaid : Prop := fnNoNeedRow.holds Tryz.pinned (OpenSpec.ofChange fnNoNeedSpec)

/-- ITS FALSE NEIGHBOUR: 'it returns false'. Refute it at one input. -/
def fnNoNeedWrong : ChangeSpec := { name := "fnNoNeed", fn := fun _ => fun
  | [d] => { results := [.lit (.bool false)], args := [d] }
  | _ => none }
def FnNoNeedWrongFalsely : Prop := fnNoNeedRow.holds Tryz.pinned (OpenSpec.ofChange fnNoNeedWrong)

/-- 'laws.FnExactHomes': WHATEVER THE INPUT: true; the input reads as it did. -/
def fnExactHomesSpec : ChangeSpec := { name := "fnExactHomes", fn := fun _ => fun
  | [d] => { results := [.lit (.bool true)], args := [d] }
  | _ => none }
def fnExactHomesRow : OpenClaim := { program := "ytpipjiinmhopmaagreat", sum := "f2aade593372a97511529068212a47673c04cde2bc6a99b5c51664de5a4763b8", func := "loop.example/g00363/laws.FnExactHomes", spec := "fnExactHomes", unfollowed := true, recurses := true, apart := false }
def FnExactHomesSaid : Prop := fnExactHomesRow.holds Tryz.pinned (OpenSpec.ofChange fnExactHomesSpec)

/-- ITS FALSE NEIGHBOUR: 'it returns false'. Refute it at one input. -/
def fnExactHomesWrong : ChangeSpec := { name := "fnExactHomes", fn := fun _ => fun
  | [d] => { results := [.lit (.bool false)], args := [d] }
  | _ => none }
def FnExactHomesWrongFalsely : Prop := fnExactHomesRow.holds Tryz.pinned (OpenSpec.ofChange fnExactHomesWrong)

/- THE SECOND FORM. 'bulk': how many values and letters a reading holds, each counted each time it is reached (what is shared counts as often as it is met; a slice's spare places count too). A statement '..UptoSaid' is the law's where the arguments, and the package variables that the reading takes, are together of bulk at most 1048576: NARROWER than '..Said'. Prove '..Said' where nothing that the law and all that it calls make is longer than what came in: it says more and counts as full. Else prove '..UptoSaid'. A law counts once. -/
mutual
def uptoBulk {H : Type} : DataW H → Nat
  | .lit (.string bytes) => bytes.length + 1
  | .lit _ => 1
  | .nil => 1
  | .ptr d => uptoBulk d + 1
  | .slice elems spare => uptoBulkAll elems + uptoBulkAll spare + 1
  | .agg parts => uptoBulkAll parts + 1
  | .iface _ d => uptoBulk d + 1
  | .map entries => uptoBulkEntries entries + 1
  | .held _ => 1
def uptoBulkAll {H : Type} : List (DataW H) → Nat
  | [] => 0
  | d :: r => uptoBulk d + uptoBulkAll r
def uptoBulkEntries {H : Type} : List (Lit × DataW H) → Nat
  | [] => 0
  | x :: r => uptoBulkEntry x + uptoBulkEntries r
def uptoBulkEntry {H : Type} : Lit × DataW H → Nat
  | (.string bytes, d) => bytes.length + uptoBulk d + 1
  | (_, d) => uptoBulk d + 1
 end
def uptoSmall : (H : Type) → List (DataW H) → Bool := fun _ ds => decide (uptoBulkAll ds ≤ 1048576)
def OpenSpec.upto (s : _root_.Go.ChangeSpec) : _root_.Go.OpenSpec := { _root_.Go.OpenSpec.ofChange s with cond := some uptoSmall }

/-- 'laws.FnHomes', WHERE WHAT IT READS IS OF BULK AT MOST 1048576: true; the input reads as it did. -/
def fnHomesUptoRow : OpenClaim := { program := "ytpipjiinmhopmaagreat", sum := "f2aade593372a97511529068212a47673c04cde2bc6a99b5c51664de5a4763b8", func := "loop.example/g00363/laws.FnHomes", spec := "fnHomes", unfollowed := true, recurses := true, apart := false, narrowed := true }
def FnHomesUptoSaid : Prop := fnHomesUptoRow.holds Tryz.pinned (OpenSpec.upto fnHomesSpec)

/-- 'laws.FnNoNeed', WHERE WHAT IT READS IS OF BULK AT MOST 1048576: true; the input reads as it did. -/
def fnNoNeedUptoRow : OpenClaim := { program := "ytpipjiinmhopmaagreat", sum := "f2aade593372a97511529068212a47673c04cde2bc6a99b5c51664de5a4763b8", func := "loop.example/g00363/laws.FnNoNeed", spec := "fnNoNeed", unfollowed := true, recurses := true, apart := false, narrowed := true }
def FnNoNeedUptoSaid : Prop := fnNoNeedUptoRow.holds Tryz.pinned (OpenSpec.upto fnNoNeedSpec)

/-- 'laws.FnExactHomes', WHERE WHAT IT READS IS OF BULK AT MOST 1048576: true; the input reads as it did. -/
def fnExactHomesUptoRow : OpenClaim := { program := "ytpipjiinmhopmaagreat", sum := "f2aade593372a97511529068212a47673c04cde2bc6a99b5c51664de5a4763b8", func := "loop.example/g00363/laws.FnExactHomes", spec := "fnExactHomes", unfollowed := true, recurses := true, apart := false, narrowed := true }
def FnExactHomesUptoSaid : Prop := fnExactHomesUptoRow.holds Tryz.pinned (OpenSpec.upto fnExactHomesSpec)

end Rows
end Go.Proofs.YtpipjiinmhopmaaGreat
