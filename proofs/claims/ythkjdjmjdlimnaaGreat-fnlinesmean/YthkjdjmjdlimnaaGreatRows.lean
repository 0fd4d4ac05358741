/-
  No cell of these rows narrows 'for every input' (looked for: loops, veiled, ifaces, maps, wideKeys, modest, calm, conditions, laid).
  DERIVED. THE GIVEN ROWS OF THIS SEAT. 3 by the template 'for every input the law returns true; each argument reads behind the call as it read before'; 0 by the template 'total and deterministic' (their statements: YthkjdjmjdlimnaaGreatTotals.lean).
  GIVEN WITH THE SEED: the statements are not yours to turn. If you find one false, say at which input.
  Laid BY PROGRAM, IN A SANDBOX (cutbox-rows.mjs): the forced cells as the released guide's own fill.sh prints them over the translation c189e4d9cce849b8… (all of the seat's roots in one cut). By AI agents, Wed Nov 11 2026. No macro, syntax, notation, axiom, sorry.
-/
import Derived.Test.YthkjdjmjdlimnaaGreatChecked
import GoSem.Claim
import GoSem.ClaimJoined
import GoSem.ClaimMapViews
import Derived.JoinedTies
import Derived.KernelRfl
namespace Go.Proofs.YthkjdjmjdlimnaaGreat
/- THE CELL 'sum', in the pinned program and in every row, IS THE sha256 OF THE DUMP (.gsa) THAT YthkjdjmjdlimnaaGreatProg.lean LOADS. Nothing in Lean hashes anything: it is a label: what it is worth is what the hold of that sum in a sandbox is worth. -/
noncomputable def Tryz.pinned : Pinned := { name := "ythkjdjmjdlimnaagreat", sum := "c189e4d9cce849b80ab9ae6f5cf0a33908562cb28f76440a2ff8a3fddffd1c4a", checked := Tryz.checked }
namespace Rows
def none {H : Type} : Left H := { results := [], args := [] }

/-- 'laws.FnLinesMean': WHATEVER THE INPUT: true; the input reads as it did. -/
def fnLinesMeanSpec : ChangeSpec := { name := "fnLinesMean", fn := fun _ => fun
  | [d] => { results := [.lit (.bool true)], args := [d] }
  | _ => none }
def fnLinesMeanRow : OpenClaim := { program := "ythkjdjmjdlimnaagreat", sum := "c189e4d9cce849b80ab9ae6f5cf0a33908562cb28f76440a2ff8a3fddffd1c4a", func := "loop.example/g00363/laws.FnLinesMean", spec := "fnLinesMean", unfollowed := true, recurses := true, apart := false }
def FnLinesMeanSaid : Prop := fnLinesMeanRow.holds Tryz.pinned (OpenSpec.ofChange fnLinesMeanSpec)

/-- ITS FALSE NEIGHBOUR: 'it returns false'. Refute it at one input. -/
def fnLinesMeanWrong : ChangeSpec := { name := "fnLinesMean", fn := fun _ => fun
  | [d] => { results := [.lit (.bool false)], args := [d] }
  | _ => none }
def FnLinesMeanWrongFalsely : Prop := fnLinesMeanRow.holds Tryz.pinned (OpenSpec.ofChange fnLinesMeanWrong)

/-- 'laws.FnRuns': WHATEVER THE INPUT: true; the input reads as it did. -/
def fnRunsSpec : ChangeSpec := { name := "fnRuns", fn := fun _ => fun
  | [d] => { results := [.lit (.bool true)], args := [d] }
  | _ => none }
def fnRunsRow : OpenClaim := { program := "ythkjdjmjdlimnaagreat", sum := "c189e4d9cce849b80ab9ae6f5cf0a33908562cb28f76440a2ff8a3fddffd1c4a", func := "loop.example/g00363/laws.FnRuns", spec := "fnRuns", unfollowed := true, recurses := true, apart := false }
def FnRunsSaid : Prop := fnRunsRow.holds Tryz.pinned (OpenSpec.ofChange fnRunsSpec)

/-- ITS FALSE NEIGHBOUR: 'it returns false'. Refute it at one input. -/
def fnRunsWrong : ChangeSpec := { name := "fnRuns", fn := fun _ => fun
  | [d] => { results := [.lit (.bool false)], args := [d] }
  | _ => none }
def FnRunsWrongFalsely : Prop := fnRunsRow.holds Tryz.pinned (OpenSpec.ofChange fnRunsWrong)

/-- 'laws.FnExactRunLines': WHATEVER THE INPUT: true; the input reads as it did. -/
def fnExactRunLinesSpec : ChangeSpec := { name := "fnExactRunLines", fn := fun _ => fun
  | [d1, d2, d3, d4, d5] => { results := [.lit (.bool true)], args := [d1, d2, d3, d4, d5] }
  | _ => none }
def fnExactRunLinesRow : OpenClaim := { program := "ythkjdjmjdlimnaagreat", sum := "c189e4d9cce849b80ab9ae6f5cf0a33908562cb28f76440a2ff8a3fddffd1c4a", func := "loop.example/g00363/laws.FnExactRunLines", spec := "fnExactRunLines", unfollowed := true, recurses := true, apart := false }
def FnExactRunLinesSaid : Prop := fnExactRunLinesRow.holds Tryz.pinned (OpenSpec.ofChange fnExactRunLinesSpec)

/-- ITS FALSE NEIGHBOUR: 'it returns false'. Refute it at one input. -/
def fnExactRunLinesWrong : ChangeSpec := { name := "fnExactRunLines", fn := fun _ => fun
  | [d1, d2, d3, d4, d5] => { results := [.lit (.bool false)], args := [d1, d2, d3, d4, d5] }
  | _ => none }
def FnExactRunLinesWrongFalsely : Prop := fnExactRunLinesRow.holds Tryz.pinned (OpenSpec.ofChange fnExactRunLinesWrong)

/- THE SECOND FORM. 'bulk': how many values and letters a reading holds, each counted each time it is reached (what is shared counts as often as it is met; a slice's spare places count too). A statement '..UptoSaid' is the law's where the arguments, and the package variables that the reading takes, are together of bulk at most 1048576: NARROWER than '..Said'. Prove '..Said' where nothing that the law and all that it calls make is longer than what came in: it says more and counts as full. Else prove '..UptoSaid'. A law counts once. -/
mutual
def uptoBulk {H : Type} : DataW H → Nat
  | .lit (.string bytes) => bytes.length + 1
  | .lit _ => 1
  | .nil => 1
  | .ptr d => uptoBulk d + 1
  | .slice elems spare => uptoBulkAll elems + uptoBulkAll spare + 1
  | .agg parts => uptoBulkAll parts + 1
  | .iface _ d => uptoBulk d + 1
  | .map entries => uptoBulkEntries entries + 1
  | .held _ => 1
def uptoBulkAll {H : Type} : List (DataW H) → Nat
  | [] => 0
  | d :: r => uptoBulk d + uptoBulkAll r
def uptoBulkEntries {H : Type} : List (Lit × DataW H) → Nat
  | [] => 0
  | x :: r => uptoBulkEntry x + uptoBulkEntries r
def uptoBulkEntry {H : Type} : Lit × DataW H → Nat
  | (.string bytes, d) => bytes.length + uptoBulk d + 1
  | (_, d) => uptoBulk d + 1
 end
def uptoSmall : (H : Type) → List (DataW H) → Bool := fun _ ds => decide (uptoBulkAll ds ≤ 1048576)
def OpenSpec.upto (s : _root_.Go.ChangeSpec) : _root_.Go.OpenSpec := { _root_.Go.OpenSpec.ofChange s with cond := some uptoSmall }

/-- 'laws.FnLinesMean', WHERE WHAT IT READS IS OF BULK AT MOST 1048576: true; the input reads as it did. -/
def fnLinesMeanUptoRow : OpenClaim := { program := "ythkjdjmjdlimnaagreat", sum := "c189e4d9cce849b80ab9ae6f5cf0a33908562cb28f76440a2ff8a3fddffd1c4a", func := "loop.example/g00363/laws.FnLinesMean", spec := "fnLinesMean", unfollowed := true, recurses := true, apart := false, narrowed := true }
def FnLinesMeanUptoSaid : Prop := fnLinesMeanUptoRow.holds Tryz.pinned (OpenSpec.upto fnLinesMeanSpec)

/-- 'laws.FnRuns', WHERE WHAT IT READS IS OF BULK AT MOST 1048576: true; the input reads as it did. -/
def fnRunsUptoRow : OpenClaim := { program := "ythkjdjmjdlimnaagreat", sum := "c189e4d9cce849b80ab9ae6f5cf0a33908562cb28f76440a2ff8a3fddffd1c4a", func := "loop.example/g00363/laws.FnRuns", spec := "fnRuns", unfollowed := true, recurses := true, apart := false, narrowed := true }
def FnRunsUptoSaid : Prop := fnRunsUptoRow.holds Tryz.pinned (OpenSpec.upto fnRunsSpec)

/-- 'laws.FnExactRunLines', WHERE WHAT IT READS IS OF BULK AT MOST 1048576: true; the input reads as it did. -/
def fnExactRunLinesUptoRow : OpenClaim := { program := "ythkjdjmjdlimnaagreat", sum := "c189e4d9cce849b80ab9ae6f5cf0a33908562cb28f76440a2ff8a3fddffd1c4a", func := "loop.example/g00363/laws.FnExactRunLines", spec := "fnExactRunLines", unfollowed := true, recurses := true, apart := false, narrowed := true }
def FnExactRunLinesUptoSaid : Prop := fnExactRunLinesUptoRow.holds Tryz.pinned (OpenSpec.upto fnExactRunLinesSpec)

end Rows
end Go.Proofs.YthkjdjmjdlimnaaGreat
