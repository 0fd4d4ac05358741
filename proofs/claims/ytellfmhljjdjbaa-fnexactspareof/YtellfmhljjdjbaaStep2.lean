/-
  toStep of the laws.
-/
import Derived.Test.YtellfmhljjdjbaaStep1
namespace Go.Proofs.Ytellfmhljjdjbaa
open Go.RowKit
set_option linter.unusedVariables false
set_option maxRecDepth 20000
theorem below_three' (w : World) (a b c : Obj) : Below w.heap.size w (((w.alloc a).alloc b).alloc c) :=
  (((Below.refl _ w).alloc (Nat.le_refl _) _).alloc (by simp) _).alloc (by simp; omega) _
theorem toStep_is (op a : Int) (w : World) :
    Calls Try.prog 16 #[.agg #[.int .i64 op, .int .i64 a]] w fun e w' => e = .returned (.agg #[.int .i64 op, .int .i64 a]) ∧ Below w.heap.size w w' := by
  go_enter Try.func16, Try.ntmps16
  go_wp2
  (try simp only [Exit.inBlock, Exit.then])
  refine bodyPost_ret (v := .agg #[_, _]) ?_ rfl ⟨rfl, below_three' _ _ _ _⟩
  rw [results_cell1 rfl]
  go_simp
end Go.Proofs.Ytellfmhljjdjbaa
