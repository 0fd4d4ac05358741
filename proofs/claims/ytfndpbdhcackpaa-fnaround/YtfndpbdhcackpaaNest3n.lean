/-
  Chapter 5: NestOk of the specification.
-/
import Derived.Test.YtfndpbdhcackpaaNest3
namespace Go.Proofs.Ytfndpbdhcackpaa
open Go.RowKit Go.Shelf
set_option linter.unusedVariables false
set_option maxRecDepth 20000
set_option maxHeartbeats 1000000 in
theorem spec_NestOk (a : Option Addr) (len cap : Nat) (xs : List (Int × Int)) (h20 : len ≤ 1048576) (w : World) (hs : SL w a len xs) :
    Calls Try.prog 17 #[.slice a len cap] w fun e w' => e = .returned (.bool (Nst.isOk xs)) ∧ Below w.heap.size w w' := by
  go_enter Try.func17, Try.ntmps17
  go_wp2_with fail
  refine (spec_l5Nest a len cap xs h20 w hs).mono ?_
  rintro e w1 ⟨gE, cE, gO, cO, rfl, -, hB⟩
  go_wp2
  go_ret
  exact ⟨rfl, hB⟩
end Go.Proofs.Ytfndpbdhcackpaa
