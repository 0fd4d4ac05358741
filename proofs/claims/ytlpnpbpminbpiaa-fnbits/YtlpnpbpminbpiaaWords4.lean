/-
  Contracts of Bits and Extended, the program's and the specification's.
-/
import Derived.Test.YtlpnpbpminbpiaaWords3
import Derived.Deep.Draws
namespace Go.Proofs.Ytlpnpbpminbpiaa
set_option linter.unusedVariables false
theorem impl_Extended (n k : Int) (w : World) :
    Calls Try.prog 21 #[.int .i64 n, .int .i64 k] w fun e w' => e = .returned (.int .i64 (Wd.ex n k)) ∧ ∃ q, w' = w.drewN q := by
  rcases h1 : Wd.inB k 1 32 with _ | _
  · rw [Wd.ex_no1 h1]
    go_enter Try.func21, Try.ntmps21
    go_wp2_with (first | (go_at_call 34; refine (impl_inRange _ _ _ _).mono ?_; rintro e w' ⟨rfl, rfl⟩) | (go_at_call 19; refine (impl_Bits _ _ _ _).mono ?_; rintro e w' ⟨rfl, q, rfl⟩))
    all_goals (go_ret; exact ⟨rfl, 0, rfl⟩)
  · obtain ⟨h5, h6⟩ := Wd.in_iff.1 h1
    go_enter Try.func21, Try.ntmps21
    go_wp2_with (first | (go_at_call 34; refine (impl_inRange _ _ _ _).mono ?_; rintro e w' ⟨rfl, rfl⟩) | (go_at_call 19; refine (impl_Bits _ _ _ _).mono ?_; rintro e w' ⟨rfl, q, rfl⟩))
    all_goals (go_ret; first | exact ⟨ret_int (Wd.ex_A h1 ‹_›), 0, rfl⟩ | exact ⟨ret_int (Wd.ex_B h1 ‹_› ‹_›), 0, rfl⟩ | exact ⟨ret_int (Wd.ex_C h1 ‹_› ‹_›), 0, rfl⟩ | exact ⟨ret_int (Wd.ex_B' h1 ‹_› ‹_›), _, rfl⟩ | exact ⟨ret_int (Wd.ex_C' h1 ‹_› ‹_›), _, rfl⟩)
theorem spec_Extended (n k : Int) (w : World) :
    Calls Try.prog 24 #[.int .i64 n, .int .i64 k] w fun e w' => e = .returned (.int .i64 (Wd.ex n k)) ∧ ∃ q, w' = w.drewN q := by
  rcases h1 : Wd.inB k 1 32 with _ | _
  · rw [Wd.ex_no1 h1]
    go_enter Try.func24, Try.ntmps24
    go_wp2_with (first | (go_at_call 35; refine (spec_l1In _ _ _ _).mono ?_; rintro e w' ⟨rfl, rfl⟩))
    all_goals (go_ret; exact ⟨rfl, 0, rfl⟩)
  · obtain ⟨h5, h6⟩ := Wd.in_iff.1 h1
    go_enter Try.func24, Try.ntmps24
    go_wp2_with (first | (go_at_call 35; refine (spec_l1In _ _ _ _).mono ?_; rintro e w' ⟨rfl, rfl⟩))
    all_goals (go_ret; first | exact ⟨ret_int (Wd.ex_A h1 ‹_›), 0, rfl⟩ | exact ⟨ret_int (Wd.ex_B h1 ‹_› ‹_›), 0, rfl⟩ | exact ⟨ret_int (Wd.ex_C h1 ‹_› ‹_›), 0, rfl⟩ | exact ⟨ret_int (Wd.ex_B' h1 ‹_› ‹_›), _, rfl⟩ | exact ⟨ret_int (Wd.ex_C' h1 ‹_› ‹_›), _, rfl⟩)
end Go.Proofs.Ytlpnpbpminbpiaa
