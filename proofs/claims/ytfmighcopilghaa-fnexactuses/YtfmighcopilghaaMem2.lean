/-
  Chapter 7: cellsOf: a list of numbers as an array of bytes, where it is a memory.
-/
import Derived.Test.YtfmighcopilghaaMem0
import Derived.Test.YtfmighcopilghaaMem1
import Derived.Test.YtfmighcopilghaaQuiet
namespace Go.Proofs.Ytfmighcopilghaa
open Go.RowKit Go.Shelf
set_option linter.unusedVariables false
set_option maxRecDepth 20000
end Go.Proofs.Ytfmighcopilghaa
