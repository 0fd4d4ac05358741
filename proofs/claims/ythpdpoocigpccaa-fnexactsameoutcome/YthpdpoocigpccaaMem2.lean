/-
  Chapter 7: cellsOf: a list of numbers as an array of bytes, where it is a memory.
-/
import Derived.Test.YthpdpoocigpccaaMem0
import Derived.Test.YthpdpoocigpccaaMem1
import Derived.Test.YthpdpoocigpccaaQuiet
namespace Go.Proofs.Ythpdpoocigpccaa
open Go.RowKit Go.Shelf
set_option linter.unusedVariables false
set_option maxRecDepth 20000
end Go.Proofs.Ythpdpoocigpccaa
