/-
  Contracts of Wrap and Signed, the program's and the specification's.
-/
import Derived.Test.YtfebahkileckfaaWords1
namespace Go.Proofs.Ytfebahkileckfaa
set_option linter.unusedVariables false
theorem impl_Wrap (a : Int) (w : World) :
    Calls Try.prog 63 #[.int .i64 a] w fun e w' => e = .returned (.int .i64 (a % 4294967296)) ∧ w' = w := by
  go_enter Try.func63, Try.ntmps63
  go_wp2
  go_ret
  exact ⟨rfl, rfl⟩
theorem spec_Wrap (a : Int) (w : World) :
    Calls Try.prog 35 #[.int .i64 a] w fun e w' => e = .returned (.int .i64 (a % 4294967296)) ∧ w' = w := by
  go_enter Try.func35, Try.ntmps35
  go_wp2
  go_ret
  exact ⟨ret_int (Wd.and32 a), rfl⟩
theorem impl_Signed (a : Int) (w : World) :
    Calls Try.prog 48 #[.int .i64 a] w fun e w' => e = .returned (.int .i64 (Wd.sg a)) ∧ w' = w := by
  rcases h : Wd.ok a with _ | _
  · rw [Wd.sg_no h]
    go_enter Try.func48, Try.ntmps48
    go_wp2_with (go_at_call 60; refine (impl_WordOk _ _).mono ?_; rintro e w' ⟨rfl, rfl⟩)
    go_ret
    exact ⟨rfl, rfl⟩
  · go_enter Try.func48, Try.ntmps48
    go_wp2_with (first | (go_at_call 60; refine (impl_WordOk _ _).mono ?_; rintro e w' ⟨rfl, rfl⟩) | go_in)
    go_ret
    exact ⟨ret_int (Wd.sg_of2 h), rfl⟩
theorem spec_Signed (a : Int) (w : World) :
    Calls Try.prog 55 #[.int .i64 a] w fun e w' => e = .returned (.int .i64 (Wd.sg a)) ∧ w' = w := by
  rcases h : Wd.ok a with _ | _
  · rw [Wd.sg_no h]
    go_enter Try.func55, Try.ntmps55
    go_wp2_with (go_at_call 42; refine (spec_WordOk _ _).mono ?_; rintro e w' ⟨rfl, rfl⟩)
    go_ret
    exact ⟨rfl, rfl⟩
  · go_enter Try.func55, Try.ntmps55
    go_wp2_with (first | (go_at_call 42; refine (spec_WordOk _ _).mono ?_; rintro e w' ⟨rfl, rfl⟩) | go_in)
    go_ret
    exact ⟨ret_int (Wd.sg_of1 h), rfl⟩
end Go.Proofs.Ytfebahkileckfaa
