/-
  Own texts for a law: Leb5
-/
import Derived.Test.YthamlonlgnjljaaGreatNC06
namespace Go.Proofs.YthamlonlgnjljaaGreat
open Go.RowKit Go.Shelf
set_option linter.all false
set_option maxRecDepth 100000
set_option maxHeartbeats 16000000
section
attribute [local go_sem] Oper.semAt_some
end
end Go.Proofs.YthamlonlgnjljaaGreat
