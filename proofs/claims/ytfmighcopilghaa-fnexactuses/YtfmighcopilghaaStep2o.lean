/-
  Opens, the program's and the specification's.
-/
import Derived.Test.YtfmighcopilghaaStep2
namespace Go.Proofs.Ytfmighcopilghaa
open Go.RowKit
set_option linter.unusedVariables false
set_option maxRecDepth 20000
theorem St.opens_or (op : Int) : (op == 8 || op == 9 || op == 10) = St.opens op := by
  unfold St.opens
  by_cases h8 : op = 8
  · subst h8; rfl
  · by_cases h9 : op = 9
    · subst h9; rfl
    · by_cases h10 : op = 10
      · subst h10; rfl
      · simp [h8, h9, h10]
def St.opn (op a : Int) : Bool := St.ok op a && St.opens op
end Go.Proofs.Ytfmighcopilghaa
