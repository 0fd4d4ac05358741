/-
  Contracts of Wrap and Signed, the program's and the specification's.
-/
import Derived.Test.YtfmighcopilghaaWords1
namespace Go.Proofs.Ytfmighcopilghaa
set_option linter.unusedVariables false
set_option maxRecDepth 20000
end Go.Proofs.Ytfmighcopilghaa
