/-
  Contracts of Wrap and Signed, the program's and the specification's.
-/
import Derived.Test.YtoolnjdncmlbhabWords1
namespace Go.Proofs.Ytoolnjdncmlbhab
set_option linter.unusedVariables false
set_option maxRecDepth 20000
theorem impl_Wrap (a : Int) (w : World) :
    Calls Try.prog 75 #[.int .i64 a] w fun e w' => e = .returned (.int .i64 (a % 4294967296)) ∧ w' = w := by
  go_enter Try.func75, Try.ntmps75
  go_wp2
  go_ret
  exact ⟨rfl, rfl⟩
theorem spec_Wrap (a : Int) (w : World) :
    Calls Try.prog 45 #[.int .i64 a] w fun e w' => e = .returned (.int .i64 (a % 4294967296)) ∧ w' = w := by
  go_enter Try.func45, Try.ntmps45
  go_wp2
  go_ret
  exact ⟨ret_int (Wd.and32 a), rfl⟩
theorem impl_Signed (a : Int) (w : World) :
    Calls Try.prog 61 #[.int .i64 a] w fun e w' => e = .returned (.int .i64 (Wd.sg a)) ∧ w' = w := by
  rcases h : Wd.ok a with _ | _
  · rw [Wd.sg_no h]
    go_enter Try.func61, Try.ntmps61
    go_wp2_with (go_at_call 70; refine (impl_WordOk _ _).mono ?_; rintro e w' ⟨rfl, rfl⟩)
    go_ret
    exact ⟨rfl, rfl⟩
  · go_enter Try.func61, Try.ntmps61
    go_wp2_with (first | (go_at_call 70; refine (impl_WordOk _ _).mono ?_; rintro e w' ⟨rfl, rfl⟩) | go_in)
    go_ret
    exact ⟨ret_int (Wd.sg_of2 h), rfl⟩
theorem spec_Signed (a : Int) (w : World) :
    Calls Try.prog 58 #[.int .i64 a] w fun e w' => e = .returned (.int .i64 (Wd.sg a)) ∧ w' = w := by
  rcases h : Wd.ok a with _ | _
  · rw [Wd.sg_no h]
    go_enter Try.func58, Try.ntmps58
    go_wp2_with (go_at_call 50; refine (spec_WordOk _ _).mono ?_; rintro e w' ⟨rfl, rfl⟩)
    go_ret
    exact ⟨rfl, rfl⟩
  · go_enter Try.func58, Try.ntmps58
    go_wp2_with (first | (go_at_call 50; refine (spec_WordOk _ _).mono ?_; rintro e w' ⟨rfl, rfl⟩) | go_in)
    go_ret
    exact ⟨ret_int (Wd.sg_of1 h), rfl⟩
end Go.Proofs.Ytoolnjdncmlbhab
