/-
  The program's iterator over the sevens of a number, and what puts the bytes of any iterator together.
-/
import Derived.Test.YtellfmhljjdjbaaWords1
import Derived.Test.YtellfmhljjdjbaaLeb0
import Derived.RangeFuncBox
import Derived.RangeFuncNested
import Derived.RangeFuncBound
import Derived.RangeFuncCalls
import Derived.RangeFuncLeaves
import Derived.Shelf.Abstract
import Derived.Shelf.RegionOpen
import Derived.WalkKit
import Derived.OwnWalkIn
import Derived.TacticsInMore
import Derived.LoopNIn
import Derived.LoopIn
import Derived.Maps.AppendAt
import Derived.Laws.BytesString
import Derived.Laws.IdiomStrings
import Derived.Laws.BytesArg
namespace Go.Proofs.Ytellfmhljjdjbaa
open Go.RowKit Go.Shelf
set_option linter.unusedVariables false
set_option maxRecDepth 20000
attribute [local go_sem] Oper.semAt_some

def encB (x : UInt8) : Array Value := #[.int .u8 (x.toNat : Int)]

end Go.Proofs.Ytellfmhljjdjbaa
