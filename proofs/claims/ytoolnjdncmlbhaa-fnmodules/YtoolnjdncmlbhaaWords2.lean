/-
  Contracts of Wrap and Signed, the program's and the specification's.
-/
import Derived.Test.YtoolnjdncmlbhaaWords1
namespace Go.Proofs.Ytoolnjdncmlbhaa
set_option linter.unusedVariables false
theorem impl_Wrap (a : Int) (w : World) :
    Calls Try.prog 117 #[.int .i64 a] w fun e w' => e = .returned (.int .i64 (a % 4294967296)) ∧ w' = w := by
  go_enter Try.func117, Try.ntmps117
  go_wp2
  go_ret
  exact ⟨rfl, rfl⟩
theorem spec_Wrap (a : Int) (w : World) :
    Calls Try.prog 77 #[.int .i64 a] w fun e w' => e = .returned (.int .i64 (a % 4294967296)) ∧ w' = w := by
  go_enter Try.func77, Try.ntmps77
  go_wp2
  go_ret
  exact ⟨ret_int (Wd.and32 a), rfl⟩
theorem impl_Signed (a : Int) (w : World) :
    Calls Try.prog 104 #[.int .i64 a] w fun e w' => e = .returned (.int .i64 (Wd.sg a)) ∧ w' = w := by
  rcases h : Wd.ok a with _ | _
  · rw [Wd.sg_no h]
    go_enter Try.func104, Try.ntmps104
    go_wp2_with (go_at_call 64; refine (impl_WordOk _ _).mono ?_; rintro e w' ⟨rfl, rfl⟩)
    go_ret
    exact ⟨rfl, rfl⟩
  · go_enter Try.func104, Try.ntmps104
    go_wp2_with (first | (go_at_call 64; refine (impl_WordOk _ _).mono ?_; rintro e w' ⟨rfl, rfl⟩) | go_in)
    go_ret
    exact ⟨ret_int (Wd.sg_of2 h), rfl⟩
theorem spec_Signed (a : Int) (w : World) :
    Calls Try.prog 101 #[.int .i64 a] w fun e w' => e = .returned (.int .i64 (Wd.sg a)) ∧ w' = w := by
  rcases h : Wd.ok a with _ | _
  · rw [Wd.sg_no h]
    go_enter Try.func101, Try.ntmps101
    go_wp2_with (go_at_call 98; refine (spec_WordOk _ _).mono ?_; rintro e w' ⟨rfl, rfl⟩)
    go_ret
    exact ⟨rfl, rfl⟩
  · go_enter Try.func101, Try.ntmps101
    go_wp2_with (first | (go_at_call 98; refine (spec_WordOk _ _).mono ?_; rintro e w' ⟨rfl, rfl⟩) | go_in)
    go_ret
    exact ⟨ret_int (Wd.sg_of1 h), rfl⟩
end Go.Proofs.Ytoolnjdncmlbhaa
