/-
  No cell of these rows narrows 'for every input' (looked for: loops, veiled, ifaces, maps, wideKeys, modest, calm, conditions, laid).
  DERIVED. THE GIVEN ROWS OF THIS SEAT. 6 by the template 'for every input the law returns true; each argument reads behind the call as it read before'; 0 by the template 'total and deterministic' (their statements: YtngbcofaoaeadaaTotals.lean).
  GIVEN WITH THE SEED: the statements are not yours to turn. If you find one false, say at which input.
  Laid BY PROGRAM, IN A SANDBOX (cutbox-rows.mjs): the forced cells as the released guide's own fill.sh prints them over the translation b5cbdc3f5cd26234… (all of the seat's roots in one cut). By AI agents, Wed Nov 11 2026. No macro, syntax, notation, axiom, sorry.
-/
import Derived.Test.YtngbcofaoaeadaaChecked
import GoSem.Claim
import GoSem.ClaimJoined
import GoSem.ClaimMapViews
import Derived.JoinedTies
import Derived.KernelRfl
namespace Go.Proofs.Ytngbcofaoaeadaa
/- THE CELL 'sum', in the pinned program and in every row, IS THE sha256 OF THE DUMP (.gsa) THAT YtngbcofaoaeadaaProg.lean LOADS. Nothing in Lean hashes anything: it is a label: what it is worth is what the hold of that sum in a sandbox is worth. -/
noncomputable def Try.pinned : Pinned := { name := "ytngbcofaoaeadaa", sum := "b5cbdc3f5cd26234105b3d4f0e2933dbb95ea3399a7adb4991073ad4f668729f", checked := Try.checked }
namespace Rows
def none {H : Type} : Left H := { results := [], args := [] }

/-- 'laws.FnNats': WHATEVER THE INPUT: true; the input reads as it did. -/
def fnNatsSpec : ChangeSpec := { name := "fnNats", fn := fun _ => fun
  | [d] => { results := [.lit (.bool true)], args := [d] }
  | _ => none }
def fnNatsRow : OpenClaim := { program := "ytngbcofaoaeadaa", sum := "b5cbdc3f5cd26234105b3d4f0e2933dbb95ea3399a7adb4991073ad4f668729f", func := "loop.example/g00363/laws.FnNats", spec := "fnNats", unfollowed := true, recurses := true, apart := false }
def FnNatsSaid : Prop := fnNatsRow.holds Try.pinned (OpenSpec.ofChange fnNatsSpec)

/-- ITS FALSE NEIGHBOUR: 'it returns false'. Refute it at one input. -/
def fnNatsWrong : ChangeSpec := { name := "fnNats", fn := fun _ => fun
  | [d] => { results := [.lit (.bool false)], args := [d] }
  | _ => none }
def FnNatsWrongFalsely : Prop := fnNatsRow.holds Try.pinned (OpenSpec.ofChange fnNatsWrong)

/-- 'laws.FnInts': WHATEVER THE INPUT: true; the input reads as it did. -/
def fnIntsSpec : ChangeSpec := { name := "fnInts", fn := fun _ => fun
  | [d] => { results := [.lit (.bool true)], args := [d] }
  | _ => none }
def fnIntsRow : OpenClaim := { program := "ytngbcofaoaeadaa", sum := "b5cbdc3f5cd26234105b3d4f0e2933dbb95ea3399a7adb4991073ad4f668729f", func := "loop.example/g00363/laws.FnInts", spec := "fnInts", unfollowed := true, recurses := true, apart := false }
def FnIntsSaid : Prop := fnIntsRow.holds Try.pinned (OpenSpec.ofChange fnIntsSpec)

/-- ITS FALSE NEIGHBOUR: 'it returns false'. Refute it at one input. -/
def fnIntsWrong : ChangeSpec := { name := "fnInts", fn := fun _ => fun
  | [d] => { results := [.lit (.bool false)], args := [d] }
  | _ => none }
def FnIntsWrongFalsely : Prop := fnIntsRow.holds Try.pinned (OpenSpec.ofChange fnIntsWrong)

/-- 'laws.FnExactShowNat': WHATEVER THE INPUT: true; the input reads as it did. -/
def fnExactShowNatSpec : ChangeSpec := { name := "fnExactShowNat", fn := fun _ => fun
  | [d] => { results := [.lit (.bool true)], args := [d] }
  | _ => none }
def fnExactShowNatRow : OpenClaim := { program := "ytngbcofaoaeadaa", sum := "b5cbdc3f5cd26234105b3d4f0e2933dbb95ea3399a7adb4991073ad4f668729f", func := "loop.example/g00363/laws.FnExactShowNat", spec := "fnExactShowNat", unfollowed := true, recurses := true, apart := false }
def FnExactShowNatSaid : Prop := fnExactShowNatRow.holds Try.pinned (OpenSpec.ofChange fnExactShowNatSpec)

/-- ITS FALSE NEIGHBOUR: 'it returns false'. Refute it at one input. -/
def fnExactShowNatWrong : ChangeSpec := { name := "fnExactShowNat", fn := fun _ => fun
  | [d] => { results := [.lit (.bool false)], args := [d] }
  | _ => none }
def FnExactShowNatWrongFalsely : Prop := fnExactShowNatRow.holds Try.pinned (OpenSpec.ofChange fnExactShowNatWrong)

/-- 'laws.FnExactReadNat': WHATEVER THE INPUT: true; the input reads as it did. -/
def fnExactReadNatSpec : ChangeSpec := { name := "fnExactReadNat", fn := fun _ => fun
  | [d1, d2] => { results := [.lit (.bool true)], args := [d1, d2] }
  | _ => none }
def fnExactReadNatRow : OpenClaim := { program := "ytngbcofaoaeadaa", sum := "b5cbdc3f5cd26234105b3d4f0e2933dbb95ea3399a7adb4991073ad4f668729f", func := "loop.example/g00363/laws.FnExactReadNat", spec := "fnExactReadNat", unfollowed := true, recurses := true, apart := false }
def FnExactReadNatSaid : Prop := fnExactReadNatRow.holds Try.pinned (OpenSpec.ofChange fnExactReadNatSpec)

/-- ITS FALSE NEIGHBOUR: 'it returns false'. Refute it at one input. -/
def fnExactReadNatWrong : ChangeSpec := { name := "fnExactReadNat", fn := fun _ => fun
  | [d1, d2] => { results := [.lit (.bool false)], args := [d1, d2] }
  | _ => none }
def FnExactReadNatWrongFalsely : Prop := fnExactReadNatRow.holds Try.pinned (OpenSpec.ofChange fnExactReadNatWrong)

/-- 'laws.FnExactShowInt': WHATEVER THE INPUT: true; the input reads as it did. -/
def fnExactShowIntSpec : ChangeSpec := { name := "fnExactShowInt", fn := fun _ => fun
  | [d] => { results := [.lit (.bool true)], args := [d] }
  | _ => none }
def fnExactShowIntRow : OpenClaim := { program := "ytngbcofaoaeadaa", sum := "b5cbdc3f5cd26234105b3d4f0e2933dbb95ea3399a7adb4991073ad4f668729f", func := "loop.example/g00363/laws.FnExactShowInt", spec := "fnExactShowInt", unfollowed := true, recurses := true, apart := false }
def FnExactShowIntSaid : Prop := fnExactShowIntRow.holds Try.pinned (OpenSpec.ofChange fnExactShowIntSpec)

/-- ITS FALSE NEIGHBOUR: 'it returns false'. Refute it at one input. -/
def fnExactShowIntWrong : ChangeSpec := { name := "fnExactShowInt", fn := fun _ => fun
  | [d] => { results := [.lit (.bool false)], args := [d] }
  | _ => none }
def FnExactShowIntWrongFalsely : Prop := fnExactShowIntRow.holds Try.pinned (OpenSpec.ofChange fnExactShowIntWrong)

/-- 'laws.FnExactReadInt': WHATEVER THE INPUT: true; the input reads as it did. -/
def fnExactReadIntSpec : ChangeSpec := { name := "fnExactReadInt", fn := fun _ => fun
  | [d1, d2] => { results := [.lit (.bool true)], args := [d1, d2] }
  | _ => none }
def fnExactReadIntRow : OpenClaim := { program := "ytngbcofaoaeadaa", sum := "b5cbdc3f5cd26234105b3d4f0e2933dbb95ea3399a7adb4991073ad4f668729f", func := "loop.example/g00363/laws.FnExactReadInt", spec := "fnExactReadInt", unfollowed := true, recurses := true, apart := false }
def FnExactReadIntSaid : Prop := fnExactReadIntRow.holds Try.pinned (OpenSpec.ofChange fnExactReadIntSpec)

/-- ITS FALSE NEIGHBOUR: 'it returns false'. Refute it at one input. -/
def fnExactReadIntWrong : ChangeSpec := { name := "fnExactReadInt", fn := fun _ => fun
  | [d1, d2] => { results := [.lit (.bool false)], args := [d1, d2] }
  | _ => none }
def FnExactReadIntWrongFalsely : Prop := fnExactReadIntRow.holds Try.pinned (OpenSpec.ofChange fnExactReadIntWrong)

/- THE SECOND FORM. 'bulk': how many values and letters a reading holds, each counted each time it is reached (what is shared counts as often as it is met; a slice's spare places count too). A statement '..UptoSaid' is the law's where the arguments, and the package variables that the reading takes, are together of bulk at most 1048576: NARROWER than '..Said'. Prove '..Said' where nothing that the law and all that it calls make is longer than what came in: it says more and counts as full. Else prove '..UptoSaid'. A law counts once. -/
mutual
def uptoBulk {H : Type} : DataW H → Nat
  | .lit (.string bytes) => bytes.length + 1
  | .lit _ => 1
  | .nil => 1
  | .ptr d => uptoBulk d + 1
  | .slice elems spare => uptoBulkAll elems + uptoBulkAll spare + 1
  | .agg parts => uptoBulkAll parts + 1
  | .iface _ d => uptoBulk d + 1
  | .map entries => uptoBulkEntries entries + 1
  | .held _ => 1
def uptoBulkAll {H : Type} : List (DataW H) → Nat
  | [] => 0
  | d :: r => uptoBulk d + uptoBulkAll r
def uptoBulkEntries {H : Type} : List (Lit × DataW H) → Nat
  | [] => 0
  | x :: r => uptoBulkEntry x + uptoBulkEntries r
def uptoBulkEntry {H : Type} : Lit × DataW H → Nat
  | (.string bytes, d) => bytes.length + uptoBulk d + 1
  | (_, d) => uptoBulk d + 1
 end
def uptoSmall : (H : Type) → List (DataW H) → Bool := fun _ ds => decide (uptoBulkAll ds ≤ 1048576)
def OpenSpec.upto (s : _root_.Go.ChangeSpec) : _root_.Go.OpenSpec := { _root_.Go.OpenSpec.ofChange s with cond := some uptoSmall }

/-- 'laws.FnNats', WHERE WHAT IT READS IS OF BULK AT MOST 1048576: true; the input reads as it did. -/
def fnNatsUptoRow : OpenClaim := { program := "ytngbcofaoaeadaa", sum := "b5cbdc3f5cd26234105b3d4f0e2933dbb95ea3399a7adb4991073ad4f668729f", func := "loop.example/g00363/laws.FnNats", spec := "fnNats", unfollowed := true, recurses := true, apart := false, narrowed := true }
def FnNatsUptoSaid : Prop := fnNatsUptoRow.holds Try.pinned (OpenSpec.upto fnNatsSpec)

/-- 'laws.FnInts', WHERE WHAT IT READS IS OF BULK AT MOST 1048576: true; the input reads as it did. -/
def fnIntsUptoRow : OpenClaim := { program := "ytngbcofaoaeadaa", sum := "b5cbdc3f5cd26234105b3d4f0e2933dbb95ea3399a7adb4991073ad4f668729f", func := "loop.example/g00363/laws.FnInts", spec := "fnInts", unfollowed := true, recurses := true, apart := false, narrowed := true }
def FnIntsUptoSaid : Prop := fnIntsUptoRow.holds Try.pinned (OpenSpec.upto fnIntsSpec)

/-- 'laws.FnExactShowNat', WHERE WHAT IT READS IS OF BULK AT MOST 1048576: true; the input reads as it did. -/
def fnExactShowNatUptoRow : OpenClaim := { program := "ytngbcofaoaeadaa", sum := "b5cbdc3f5cd26234105b3d4f0e2933dbb95ea3399a7adb4991073ad4f668729f", func := "loop.example/g00363/laws.FnExactShowNat", spec := "fnExactShowNat", unfollowed := true, recurses := true, apart := false, narrowed := true }
def FnExactShowNatUptoSaid : Prop := fnExactShowNatUptoRow.holds Try.pinned (OpenSpec.upto fnExactShowNatSpec)

/-- 'laws.FnExactReadNat', WHERE WHAT IT READS IS OF BULK AT MOST 1048576: true; the input reads as it did. -/
def fnExactReadNatUptoRow : OpenClaim := { program := "ytngbcofaoaeadaa", sum := "b5cbdc3f5cd26234105b3d4f0e2933dbb95ea3399a7adb4991073ad4f668729f", func := "loop.example/g00363/laws.FnExactReadNat", spec := "fnExactReadNat", unfollowed := true, recurses := true, apart := false, narrowed := true }
def FnExactReadNatUptoSaid : Prop := fnExactReadNatUptoRow.holds Try.pinned (OpenSpec.upto fnExactReadNatSpec)

/-- 'laws.FnExactShowInt', WHERE WHAT IT READS IS OF BULK AT MOST 1048576: true; the input reads as it did. -/
def fnExactShowIntUptoRow : OpenClaim := { program := "ytngbcofaoaeadaa", sum := "b5cbdc3f5cd26234105b3d4f0e2933dbb95ea3399a7adb4991073ad4f668729f", func := "loop.example/g00363/laws.FnExactShowInt", spec := "fnExactShowInt", unfollowed := true, recurses := true, apart := false, narrowed := true }
def FnExactShowIntUptoSaid : Prop := fnExactShowIntUptoRow.holds Try.pinned (OpenSpec.upto fnExactShowIntSpec)

/-- 'laws.FnExactReadInt', WHERE WHAT IT READS IS OF BULK AT MOST 1048576: true; the input reads as it did. -/
def fnExactReadIntUptoRow : OpenClaim := { program := "ytngbcofaoaeadaa", sum := "b5cbdc3f5cd26234105b3d4f0e2933dbb95ea3399a7adb4991073ad4f668729f", func := "loop.example/g00363/laws.FnExactReadInt", spec := "fnExactReadInt", unfollowed := true, recurses := true, apart := false, narrowed := true }
def FnExactReadIntUptoSaid : Prop := fnExactReadIntUptoRow.holds Try.pinned (OpenSpec.upto fnExactReadIntSpec)

end Rows
end Go.Proofs.Ytngbcofaoaeadaa
