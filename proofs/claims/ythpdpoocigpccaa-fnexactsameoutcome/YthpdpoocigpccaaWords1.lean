/-
  Contracts of WordOk: the program's and the specification's answer the same.
-/
import Derived.Test.YthpdpoocigpccaaRows
import Derived.Test.YthpdpoocigpccaaMath
import Derived.WalkKit
import Derived.ProofKit
namespace Go.Proofs.Ythpdpoocigpccaa
set_option linter.unusedVariables false
set_option maxRecDepth 20000
end Go.Proofs.Ythpdpoocigpccaa
