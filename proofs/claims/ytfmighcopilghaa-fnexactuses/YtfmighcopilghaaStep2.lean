/-
  toStep of the laws.
-/
import Derived.Test.YtfmighcopilghaaStep1
namespace Go.Proofs.Ytfmighcopilghaa
open Go.RowKit
set_option linter.unusedVariables false
set_option maxRecDepth 20000
theorem below_three' (w : World) (a b c : Obj) : Below w.heap.size w (((w.alloc a).alloc b).alloc c) :=
  (((Below.refl _ w).alloc (Nat.le_refl _) _).alloc (by simp) _).alloc (by simp; omega) _
end Go.Proofs.Ytfmighcopilghaa
