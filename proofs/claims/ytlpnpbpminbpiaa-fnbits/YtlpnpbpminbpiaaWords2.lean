/-
  Contracts of Wrap and Signed, the program's and the specification's.
-/
import Derived.Test.YtlpnpbpminbpiaaWords1
namespace Go.Proofs.Ytlpnpbpminbpiaa
set_option linter.unusedVariables false
theorem impl_Wrap (a : Int) (w : World) :
    Calls Try.prog 13 #[.int .i64 a] w fun e w' => e = .returned (.int .i64 (a % 4294967296)) ∧ w' = w := by
  go_enter Try.func13, Try.ntmps13
  go_wp2
  go_ret
  exact ⟨rfl, rfl⟩
theorem spec_Wrap (a : Int) (w : World) :
    Calls Try.prog 15 #[.int .i64 a] w fun e w' => e = .returned (.int .i64 (a % 4294967296)) ∧ w' = w := by
  go_enter Try.func15, Try.ntmps15
  go_wp2
  go_ret
  exact ⟨ret_int (Wd.and32 a), rfl⟩
theorem impl_Signed (a : Int) (w : World) :
    Calls Try.prog 25 #[.int .i64 a] w fun e w' => e = .returned (.int .i64 (Wd.sg a)) ∧ w' = w := by
  rcases h : Wd.ok a with _ | _
  · rw [Wd.sg_no h]
    go_enter Try.func25, Try.ntmps25
    go_wp2_with (go_at_call 16; refine (impl_WordOk _ _).mono ?_; rintro e w' ⟨rfl, rfl⟩)
    go_ret
    exact ⟨rfl, rfl⟩
  · go_enter Try.func25, Try.ntmps25
    go_wp2_with (first | (go_at_call 16; refine (impl_WordOk _ _).mono ?_; rintro e w' ⟨rfl, rfl⟩) | go_in)
    go_ret
    exact ⟨ret_int (Wd.sg_of2 h), rfl⟩
theorem spec_Signed (a : Int) (w : World) :
    Calls Try.prog 26 #[.int .i64 a] w fun e w' => e = .returned (.int .i64 (Wd.sg a)) ∧ w' = w := by
  rcases h : Wd.ok a with _ | _
  · rw [Wd.sg_no h]
    go_enter Try.func26, Try.ntmps26
    go_wp2_with (go_at_call 17; refine (spec_WordOk _ _).mono ?_; rintro e w' ⟨rfl, rfl⟩)
    go_ret
    exact ⟨rfl, rfl⟩
  · go_enter Try.func26, Try.ntmps26
    go_wp2_with (first | (go_at_call 17; refine (spec_WordOk _ _).mono ?_; rintro e w' ⟨rfl, rfl⟩) | go_in)
    go_ret
    exact ⟨ret_int (Wd.sg_of1 h), rfl⟩
end Go.Proofs.Ytlpnpbpminbpiaa
