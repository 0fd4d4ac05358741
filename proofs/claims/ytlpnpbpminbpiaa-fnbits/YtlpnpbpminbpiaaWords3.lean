/-
  Contracts of Bits and Extended, the program's and the specification's.
-/
import Derived.Test.YtlpnpbpminbpiaaWords1
import Derived.Deep.Draws
namespace Go.Proofs.Ytlpnpbpminbpiaa
set_option linter.unusedVariables false
theorem impl_Bits (a f c : Int) (w : World) :
    Calls Try.prog 19 #[.int .i64 a, .int .i64 f, .int .i64 c] w fun e w' => e = .returned (.int .i64 (Wd.bt a f c)) ∧ ∃ q, w' = w.drewN q := by
  rcases h : Wd.ok a with _ | _
  · rw [Wd.bt_no1 h]
    go_enter Try.func19, Try.ntmps19
    go_wp2_with (first | (go_at_call 16; refine (impl_WordOk _ _).mono ?_; rintro e w' ⟨rfl, rfl⟩) | (go_at_call 34; refine (impl_inRange _ _ _ _).mono ?_; rintro e w' ⟨rfl, rfl⟩))
    all_goals (go_ret; exact ⟨rfl, 0, rfl⟩)
  rcases h1 : Wd.inB f 0 31 with _ | _
  · rw [Wd.bt_no2 h1]
    go_enter Try.func19, Try.ntmps19
    go_wp2_with (first | (go_at_call 16; refine (impl_WordOk _ _).mono ?_; rintro e w' ⟨rfl, rfl⟩) | (go_at_call 34; refine (impl_inRange _ _ _ _).mono ?_; rintro e w' ⟨rfl, rfl⟩))
    all_goals (go_ret; exact ⟨rfl, 0, rfl⟩)
  rcases h2 : Wd.inB c 1 32 with _ | _
  · rw [Wd.bt_no3 h2]
    go_enter Try.func19, Try.ntmps19
    go_wp2_with (first | (go_at_call 16; refine (impl_WordOk _ _).mono ?_; rintro e w' ⟨rfl, rfl⟩) | (go_at_call 34; refine (impl_inRange _ _ _ _).mono ?_; rintro e w' ⟨rfl, rfl⟩))
    all_goals (go_ret; exact ⟨rfl, 0, rfl⟩)
  · obtain ⟨h3, h4⟩ := Wd.in_iff.1 h1
    obtain ⟨h5, h6⟩ := Wd.in_iff.1 h2
    obtain ⟨h8, h9⟩ := Wd.ok_iff.1 h
    go_enter Try.func19, Try.ntmps19
    go_wp2_with (first | (go_at_call 16; refine (impl_WordOk _ _).mono ?_; rintro e w' ⟨rfl, rfl⟩) | (go_at_call 34; refine (impl_inRange _ _ _ _).mono ?_; rintro e w' ⟨rfl, rfl⟩))
    go_region
    all_goals go_wp2
    all_goals (go_ret; first | exact ⟨ret_int (Wd.bt_is h h1 h2), 0, rfl⟩ | exact ⟨ret_int (Wd.bt_is h h1 h2), 1, rfl⟩)
theorem spec_Bits (a f c : Int) (w : World) :
    Calls Try.prog 23 #[.int .i64 a, .int .i64 f, .int .i64 c] w fun e w' => e = .returned (.int .i64 (Wd.bt a f c)) ∧ ∃ q, w' = w.drewN q := by
  rcases h : Wd.ok a with _ | _
  · rw [Wd.bt_no1 h]
    go_enter Try.func23, Try.ntmps23
    go_wp2_with (first | (go_at_call 17; refine (spec_WordOk _ _).mono ?_; rintro e w' ⟨rfl, rfl⟩) | (go_at_call 35; refine (spec_l1In _ _ _ _).mono ?_; rintro e w' ⟨rfl, rfl⟩))
    all_goals (go_ret; exact ⟨rfl, 0, rfl⟩)
  rcases h1 : Wd.inB f 0 31 with _ | _
  · rw [Wd.bt_no2 h1]
    go_enter Try.func23, Try.ntmps23
    go_wp2_with (first | (go_at_call 17; refine (spec_WordOk _ _).mono ?_; rintro e w' ⟨rfl, rfl⟩) | (go_at_call 35; refine (spec_l1In _ _ _ _).mono ?_; rintro e w' ⟨rfl, rfl⟩))
    all_goals (go_ret; exact ⟨rfl, 0, rfl⟩)
  rcases h2 : Wd.inB c 1 32 with _ | _
  · rw [Wd.bt_no3 h2]
    go_enter Try.func23, Try.ntmps23
    go_wp2_with (first | (go_at_call 17; refine (spec_WordOk _ _).mono ?_; rintro e w' ⟨rfl, rfl⟩) | (go_at_call 35; refine (spec_l1In _ _ _ _).mono ?_; rintro e w' ⟨rfl, rfl⟩))
    all_goals (go_ret; exact ⟨rfl, 0, rfl⟩)
  · obtain ⟨h3, h4⟩ := Wd.in_iff.1 h1
    obtain ⟨h5, h6⟩ := Wd.in_iff.1 h2
    obtain ⟨h8, h9⟩ := Wd.ok_iff.1 h
    go_enter Try.func23, Try.ntmps23
    go_wp2_with (first | (go_at_call 17; refine (spec_WordOk _ _).mono ?_; rintro e w' ⟨rfl, rfl⟩) | (go_at_call 35; refine (spec_l1In _ _ _ _).mono ?_; rintro e w' ⟨rfl, rfl⟩))
    all_goals (go_ret; first | exact ⟨ret_int (Wd.bt_is h h1 h2), 0, rfl⟩ | exact ⟨ret_int (Wd.bt_is h h1 h2), 1, rfl⟩)
end Go.Proofs.Ytlpnpbpminbpiaa
