/-
  Proved: at every list of Lines the program's Spans answers as the specification's does, in memory of its own, and writes nothing of what it is given, and the law FnExactSpans returns true; no condition.
-/
import Derived.Test.YtlbkdlnalgkjeaaLB15
import Derived.Deep.RegionWith
namespace Go.Proofs.Ytlbkdlnalgkjeaa.fnExactSpans
open Go.ChangeShapes Go.WideShapes Go.ChangeAt Go.RowKit Go.Joins Go.Deep
set_option linter.all false
set_option maxRecDepth 20000
theorem own:ownKnob Try.prog.godebug=none:=by kernel_rfl
theorem laidOut:laidOutB Try.prog=true:=by kernel_rfl
theorem spans_len (ls:List Ln):(Sp.aZ ls).length<=40:=by unfold Sp.aZ;split;{exact Sp.fQ ls 40};exact Nat.zero_le _
end Go.Proofs.Ytlbkdlnalgkjeaa.fnExactSpans
