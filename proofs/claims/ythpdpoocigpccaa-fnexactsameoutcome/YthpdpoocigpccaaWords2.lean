/-
  Contracts of Wrap and Signed, the program's and the specification's.
-/
import Derived.Test.YthpdpoocigpccaaWords1
namespace Go.Proofs.Ythpdpoocigpccaa
set_option linter.unusedVariables false
set_option maxRecDepth 20000
end Go.Proofs.Ythpdpoocigpccaa
