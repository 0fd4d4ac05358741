/-
  Chapter 8, for its exact laws: eqOutcome, markOutcome, heldOutcome; a list marked from whatever number on.
-/
import Derived.Test.YthpdpoocigpccaaMem4
namespace Go.Proofs.Ythpdpoocigpccaa
open Go.RowKit Go.Shelf
set_option linter.unusedVariables false
set_option maxRecDepth 20000
set_option maxHeartbeats 2000000 in
theorem eqOutcome_same (cd vv : Int) (a b : Option Addr) (len cap cap' : Nat) (xs : List Int) (w : World) (hs : IL w a len xs) (hs' : IL w b len xs) :
    Calls Try.prog 8 #[.agg #[.int .i64 cd, .int .i64 vv, .slice a len cap], .agg #[.int .i64 cd, .int .i64 vv, .slice b len cap']] w fun e w' => e = .returned (.bool true) ∧ Below w.heap.size w w' := by
  have hB := below_two w (.cells #[.int .i64 cd, .int .i64 vv, .slice a len cap] 27) (.cells #[.int .i64 cd, .int .i64 vv, .slice b len cap'] 27)
  have hcon := eqInt64S_same a b len cap cap' xs _ (hs.kept hB) (hs'.kept hB)
  clear hs hs'
  go_enter Try.func8, Try.ntmps8
  go_wp2_with fail
  refine hcon.mono ?_
  rintro e w' ⟨rfl, hB'⟩
  dsimp only
  have HB := Hid.put (hB.trans (hB'.mono hB.size))
  clear hcon hB hB'
  go_wp2
  go_ret
  exact ⟨rfl, HB.out⟩
end Go.Proofs.Ythpdpoocigpccaa
