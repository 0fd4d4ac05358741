/-
  Contracts of Wrap and Signed, the program's and the specification's.
-/
import Derived.Test.YtellfmhljjdjbaaWords1
namespace Go.Proofs.Ytellfmhljjdjbaa
set_option linter.unusedVariables false
set_option maxRecDepth 20000
end Go.Proofs.Ytellfmhljjdjbaa
