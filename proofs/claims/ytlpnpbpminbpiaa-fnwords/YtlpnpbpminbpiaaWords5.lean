/-
  Contract of the specification's Done.
-/
import Derived.Test.YtlpnpbpminbpiaaWords2
import Derived.Deep.Draws
import Derived.Below
namespace Go.Proofs.Ytlpnpbpminbpiaa
set_option linter.unusedVariables false
theorem spec_Done_1 (a b : Int) (w : World) (ha : Wd.ok a = true) (hb : Wd.ok b = true) :
    Calls Try.prog 14 #[.int .i64 1, .int .i64 a, .int .i64 b] w fun e w' => e = .returned (.tuple #[.int .i64 (Wd.dv 1 a b), .int .i64 (Wd.dc 1 a b)]) ∧ ∃ q, w' = w.drewN q := by
  obtain ⟨h3, h4⟩ := Wd.ok_iff.1 ha
  obtain ⟨h5, h6⟩ := Wd.ok_iff.1 hb
  go_enter Try.func14, Try.ntmps14
  go_wp2_with (first | (go_at_call 17; refine (spec_WordOk _ _).mono ?_; rintro e w' ⟨rfl, rfl⟩) | (go_at_call 15; refine (spec_Wrap _ _).mono ?_; rintro e w' ⟨rfl, rfl⟩) | (go_at_call 26; refine (spec_Signed _ _).mono ?_; rintro e w' ⟨rfl, rfl⟩) | go_in)
  all_goals (go_ret2; exact ⟨ret_two (Wd.dv1 ha hb) (Wd.dc_0 ha hb (by omega) (by omega)), 0, rfl⟩)
theorem spec_Done_2 (a b : Int) (w : World) (ha : Wd.ok a = true) (hb : Wd.ok b = true) :
    Calls Try.prog 14 #[.int .i64 2, .int .i64 a, .int .i64 b] w fun e w' => e = .returned (.tuple #[.int .i64 (Wd.dv 2 a b), .int .i64 (Wd.dc 2 a b)]) ∧ ∃ q, w' = w.drewN q := by
  obtain ⟨h3, h4⟩ := Wd.ok_iff.1 ha
  obtain ⟨h5, h6⟩ := Wd.ok_iff.1 hb
  go_enter Try.func14, Try.ntmps14
  go_wp2_with (first | (go_at_call 17; refine (spec_WordOk _ _).mono ?_; rintro e w' ⟨rfl, rfl⟩) | (go_at_call 15; refine (spec_Wrap _ _).mono ?_; rintro e w' ⟨rfl, rfl⟩) | (go_at_call 26; refine (spec_Signed _ _).mono ?_; rintro e w' ⟨rfl, rfl⟩) | go_in)
  all_goals (go_ret2; exact ⟨ret_two (Wd.dv2 ha hb) (Wd.dc_0 ha hb (by omega) (by omega)), 0, rfl⟩)
theorem spec_Done_3 (a b : Int) (w : World) (ha : Wd.ok a = true) (hb : Wd.ok b = true) :
    Calls Try.prog 14 #[.int .i64 3, .int .i64 a, .int .i64 b] w fun e w' => e = .returned (.tuple #[.int .i64 (Wd.dv 3 a b), .int .i64 (Wd.dc 3 a b)]) ∧ ∃ q, w' = w.drewN q := by
  obtain ⟨h3, h4⟩ := Wd.ok_iff.1 ha
  obtain ⟨h5, h6⟩ := Wd.ok_iff.1 hb
  go_enter Try.func14, Try.ntmps14
  go_wp2_with (first | (go_at_call 17; refine (spec_WordOk _ _).mono ?_; rintro e w' ⟨rfl, rfl⟩) | (go_at_call 15; refine (spec_Wrap _ _).mono ?_; rintro e w' ⟨rfl, rfl⟩) | (go_at_call 26; refine (spec_Signed _ _).mono ?_; rintro e w' ⟨rfl, rfl⟩) | go_in)
  all_goals (go_ret2; exact ⟨ret_two (Wd.dv3 ha hb) (Wd.dc_0 ha hb (by omega) (by omega)), 0, rfl⟩)
theorem spec_Done_5 (a b : Int) (w : World) (ha : Wd.ok a = true) (hb : Wd.ok b = true) :
    Calls Try.prog 14 #[.int .i64 5, .int .i64 a, .int .i64 b] w fun e w' => e = .returned (.tuple #[.int .i64 (Wd.dv 5 a b), .int .i64 (Wd.dc 5 a b)]) ∧ ∃ q, w' = w.drewN q := by
  obtain ⟨h3, h4⟩ := Wd.ok_iff.1 ha
  obtain ⟨h5, h6⟩ := Wd.ok_iff.1 hb
  go_enter Try.func14, Try.ntmps14
  go_wp2_with (first | (go_at_call 17; refine (spec_WordOk _ _).mono ?_; rintro e w' ⟨rfl, rfl⟩) | (go_at_call 15; refine (spec_Wrap _ _).mono ?_; rintro e w' ⟨rfl, rfl⟩) | (go_at_call 26; refine (spec_Signed _ _).mono ?_; rintro e w' ⟨rfl, rfl⟩) | go_in)
  all_goals (go_ret2; exact ⟨ret_two (Wd.dv5 ha hb) (Wd.dc_0 ha hb (by omega) (by omega)), 0, rfl⟩)
theorem spec_Done_6 (a b : Int) (w : World) (ha : Wd.ok a = true) (hb : Wd.ok b = true) :
    Calls Try.prog 14 #[.int .i64 6, .int .i64 a, .int .i64 b] w fun e w' => e = .returned (.tuple #[.int .i64 (Wd.dv 6 a b), .int .i64 (Wd.dc 6 a b)]) ∧ ∃ q, w' = w.drewN q := by
  obtain ⟨h3, h4⟩ := Wd.ok_iff.1 ha
  obtain ⟨h5, h6⟩ := Wd.ok_iff.1 hb
  go_enter Try.func14, Try.ntmps14
  go_wp2_with (first | (go_at_call 17; refine (spec_WordOk _ _).mono ?_; rintro e w' ⟨rfl, rfl⟩) | (go_at_call 15; refine (spec_Wrap _ _).mono ?_; rintro e w' ⟨rfl, rfl⟩) | (go_at_call 26; refine (spec_Signed _ _).mono ?_; rintro e w' ⟨rfl, rfl⟩) | go_in)
  all_goals (go_ret2; exact ⟨ret_two (Wd.dv6 ha hb) (Wd.dc_0 ha hb (by omega) (by omega)), 0, rfl⟩)
theorem spec_Done_7 (a b : Int) (w : World) (ha : Wd.ok a = true) (hb : Wd.ok b = true) :
    Calls Try.prog 14 #[.int .i64 7, .int .i64 a, .int .i64 b] w fun e w' => e = .returned (.tuple #[.int .i64 (Wd.dv 7 a b), .int .i64 (Wd.dc 7 a b)]) ∧ ∃ q, w' = w.drewN q := by
  obtain ⟨h3, h4⟩ := Wd.ok_iff.1 ha
  obtain ⟨h5, h6⟩ := Wd.ok_iff.1 hb
  go_enter Try.func14, Try.ntmps14
  go_wp2_with (first | (go_at_call 17; refine (spec_WordOk _ _).mono ?_; rintro e w' ⟨rfl, rfl⟩) | (go_at_call 15; refine (spec_Wrap _ _).mono ?_; rintro e w' ⟨rfl, rfl⟩) | (go_at_call 26; refine (spec_Signed _ _).mono ?_; rintro e w' ⟨rfl, rfl⟩) | go_in)
  all_goals (go_ret2; exact ⟨ret_two (Wd.dv7 ha hb) (Wd.dc_0 ha hb (by omega) (by omega)), 0, rfl⟩)
theorem spec_Done_8 (a b : Int) (w : World) (ha : Wd.ok a = true) (hb : Wd.ok b = true) :
    Calls Try.prog 14 #[.int .i64 8, .int .i64 a, .int .i64 b] w fun e w' => e = .returned (.tuple #[.int .i64 (Wd.dv 8 a b), .int .i64 (Wd.dc 8 a b)]) ∧ ∃ q, w' = w.drewN q := by
  obtain ⟨h3, h4⟩ := Wd.ok_iff.1 ha
  obtain ⟨h5, h6⟩ := Wd.ok_iff.1 hb
  go_enter Try.func14, Try.ntmps14
  go_wp2_with (first | (go_at_call 17; refine (spec_WordOk _ _).mono ?_; rintro e w' ⟨rfl, rfl⟩) | (go_at_call 15; refine (spec_Wrap _ _).mono ?_; rintro e w' ⟨rfl, rfl⟩) | (go_at_call 26; refine (spec_Signed _ _).mono ?_; rintro e w' ⟨rfl, rfl⟩) | go_in)
  all_goals (go_ret2; exact ⟨ret_two (Wd.dv8 ha hb) (Wd.dc_0 ha hb (by omega) (by omega)), 0, rfl⟩)
theorem spec_Done_9 (a b : Int) (w : World) (ha : Wd.ok a = true) (hb : Wd.ok b = true) :
    Calls Try.prog 14 #[.int .i64 9, .int .i64 a, .int .i64 b] w fun e w' => e = .returned (.tuple #[.int .i64 (Wd.dv 9 a b), .int .i64 (Wd.dc 9 a b)]) ∧ ∃ q, w' = w.drewN q := by
  obtain ⟨h3, h4⟩ := Wd.ok_iff.1 ha
  obtain ⟨h5, h6⟩ := Wd.ok_iff.1 hb
  go_enter Try.func14, Try.ntmps14
  go_wp2_with (first | (go_at_call 17; refine (spec_WordOk _ _).mono ?_; rintro e w' ⟨rfl, rfl⟩) | (go_at_call 15; refine (spec_Wrap _ _).mono ?_; rintro e w' ⟨rfl, rfl⟩) | (go_at_call 26; refine (spec_Signed _ _).mono ?_; rintro e w' ⟨rfl, rfl⟩) | go_in)
  all_goals (go_ret2; exact ⟨ret_two (Wd.dv9 ha hb) (Wd.dc_0 ha hb (by omega) (by omega)), 0, rfl⟩)
theorem spec_Done_4z (a b : Int) (w : World) (ha : Wd.ok a = true) (hb : Wd.ok b = true) (h : Wd.sg b = 0) :
    Calls Try.prog 14 #[.int .i64 4, .int .i64 a, .int .i64 b] w fun e w' => e = .returned (.tuple #[.int .i64 (Wd.dv 4 a b), .int .i64 (Wd.dc 4 a b)]) ∧ ∃ q, w' = w.drewN q := by
  obtain ⟨h3, h4⟩ := Wd.ok_iff.1 ha
  obtain ⟨h5, h6⟩ := Wd.ok_iff.1 hb
  have h0 : (Wd.sg b == 0) = true := by simp [h]
  have H : RowKit.Hid (Wd.sg b = 0) := h
  clear h
  go_enter Try.func14, Try.ntmps14
  go_wp2_with (first | (go_at_call 17; refine (spec_WordOk _ _).mono ?_; rintro e w' ⟨rfl, rfl⟩) | (go_at_call 15; refine (spec_Wrap _ _).mono ?_; rintro e w' ⟨rfl, rfl⟩) | (go_at_call 26; refine (spec_Signed _ _).mono ?_; rintro e w' ⟨rfl, rfl⟩) | go_in)
  all_goals (go_ret2; exact ⟨ret_two (Wd.dv4z ha hb H.out) (Wd.dc4z ha hb H.out), 0, rfl⟩)
theorem spec_Done_4o (a b : Int) (w : World) (ha : Wd.ok a = true) (hb : Wd.ok b = true) (h : Wd.sg a = -2147483648) (h' : Wd.sg b = -1) :
    Calls Try.prog 14 #[.int .i64 4, .int .i64 a, .int .i64 b] w fun e w' => e = .returned (.tuple #[.int .i64 (Wd.dv 4 a b), .int .i64 (Wd.dc 4 a b)]) ∧ ∃ q, w' = w.drewN q := by
  obtain ⟨h3, h4⟩ := Wd.ok_iff.1 ha
  obtain ⟨h5, h6⟩ := Wd.ok_iff.1 hb
  go_enter Try.func14, Try.ntmps14
  go_wp2_with (first | (go_at_call 17; refine (spec_WordOk _ _).mono ?_; rintro e w' ⟨rfl, rfl⟩) | (go_at_call 15; refine (spec_Wrap _ _).mono ?_; rintro e w' ⟨rfl, rfl⟩) | (go_at_call 26; refine (spec_Signed _ _).mono ?_; rintro e w' ⟨rfl, rfl⟩) | go_in)
  all_goals (go_ret2; exact ⟨ret_two (Wd.dv4o ha hb h h') (Wd.dc4o ha hb h h'), 0, rfl⟩)
theorem spec_Done_4d (a b : Int) (w : World) (ha : Wd.ok a = true) (hb : Wd.ok b = true) (h0 : ¬ Wd.sg b = 0) (h : ¬ (Wd.sg a = -2147483648 ∧ Wd.sg b = -1)) :
    Calls Try.prog 14 #[.int .i64 4, .int .i64 a, .int .i64 b] w fun e w' => e = .returned (.tuple #[.int .i64 (Wd.dv 4 a b), .int .i64 (Wd.dc 4 a b)]) ∧ ∃ q, w' = w.drewN q := by
  obtain ⟨h3, h4⟩ := Wd.ok_iff.1 ha
  obtain ⟨h5, h6⟩ := Wd.ok_iff.1 hb
  have h1 : (Wd.sg b == 0) = false := by simp [h0]
  have H : RowKit.Hid (¬ (Wd.sg a = -2147483648 ∧ Wd.sg b = -1)) := h
  have h2 : (Wd.sg a == -2147483648) = true → (Wd.sg b == -1) = false := by simpa using h
  clear h
  go_enter Try.func14, Try.ntmps14
  go_wp2_with (first | (go_at_call 17; refine (spec_WordOk _ _).mono ?_; rintro e w' ⟨rfl, rfl⟩) | (go_at_call 15; refine (spec_Wrap _ _).mono ?_; rintro e w' ⟨rfl, rfl⟩) | (go_at_call 26; refine (spec_Signed _ _).mono ?_; rintro e w' ⟨rfl, rfl⟩) | go_in)
  all_goals (go_ret2; first | exact ⟨ret_two (Wd.dv4d ha hb h0 H.out) (Wd.dc4d ha hb h0 H.out), 0, rfl⟩ | exact ⟨ret_two (Wd.dv4m ha hb h0 H.out ‹_›) (Wd.dc4d ha hb h0 H.out), 0, rfl⟩)
theorem spec_Done_10y (a b : Int) (w : World) (ha : Wd.ok a = true) (hb : Wd.ok b = true) (h : (a == b) = true) :
    Calls Try.prog 14 #[.int .i64 10, .int .i64 a, .int .i64 b] w fun e w' => e = .returned (.tuple #[.int .i64 (Wd.dv 10 a b), .int .i64 (Wd.dc 10 a b)]) ∧ ∃ q, w' = w.drewN q := by
  obtain ⟨h3, h4⟩ := Wd.ok_iff.1 ha
  obtain ⟨h5, h6⟩ := Wd.ok_iff.1 hb
  go_enter Try.func14, Try.ntmps14
  go_wp2_with (first | (go_at_call 17; refine (spec_WordOk _ _).mono ?_; rintro e w' ⟨rfl, rfl⟩) | (go_at_call 15; refine (spec_Wrap _ _).mono ?_; rintro e w' ⟨rfl, rfl⟩) | (go_at_call 26; refine (spec_Signed _ _).mono ?_; rintro e w' ⟨rfl, rfl⟩) | go_in)
  all_goals (go_ret2; exact ⟨ret_two (Wd.dv10y ha hb (by simpa using h)) (Wd.dc_0 ha hb (by omega) (by omega)), 0, rfl⟩)
theorem spec_Done_10n (a b : Int) (w : World) (ha : Wd.ok a = true) (hb : Wd.ok b = true) (h : (a == b) = false) :
    Calls Try.prog 14 #[.int .i64 10, .int .i64 a, .int .i64 b] w fun e w' => e = .returned (.tuple #[.int .i64 (Wd.dv 10 a b), .int .i64 (Wd.dc 10 a b)]) ∧ ∃ q, w' = w.drewN q := by
  obtain ⟨h3, h4⟩ := Wd.ok_iff.1 ha
  obtain ⟨h5, h6⟩ := Wd.ok_iff.1 hb
  go_enter Try.func14, Try.ntmps14
  go_wp2_with (first | (go_at_call 17; refine (spec_WordOk _ _).mono ?_; rintro e w' ⟨rfl, rfl⟩) | (go_at_call 15; refine (spec_Wrap _ _).mono ?_; rintro e w' ⟨rfl, rfl⟩) | (go_at_call 26; refine (spec_Signed _ _).mono ?_; rintro e w' ⟨rfl, rfl⟩) | go_in)
  all_goals (go_ret2; exact ⟨ret_two (Wd.dv10n ha hb (by simpa using h)) (Wd.dc_0 ha hb (by omega) (by omega)), 0, rfl⟩)
theorem spec_Done_11y (a b : Int) (w : World) (ha : Wd.ok a = true) (hb : Wd.ok b = true) (h : Wd.sg a < Wd.sg b) :
    Calls Try.prog 14 #[.int .i64 11, .int .i64 a, .int .i64 b] w fun e w' => e = .returned (.tuple #[.int .i64 (Wd.dv 11 a b), .int .i64 (Wd.dc 11 a b)]) ∧ ∃ q, w' = w.drewN q := by
  obtain ⟨h3, h4⟩ := Wd.ok_iff.1 ha
  obtain ⟨h5, h6⟩ := Wd.ok_iff.1 hb
  go_enter Try.func14, Try.ntmps14
  go_wp2_with (first | (go_at_call 17; refine (spec_WordOk _ _).mono ?_; rintro e w' ⟨rfl, rfl⟩) | (go_at_call 15; refine (spec_Wrap _ _).mono ?_; rintro e w' ⟨rfl, rfl⟩) | (go_at_call 26; refine (spec_Signed _ _).mono ?_; rintro e w' ⟨rfl, rfl⟩) | go_in)
  all_goals (go_ret2; exact ⟨ret_two (Wd.dv11y ha hb (by simpa using h)) (Wd.dc_0 ha hb (by omega) (by omega)), 0, rfl⟩)
theorem spec_Done_11n (a b : Int) (w : World) (ha : Wd.ok a = true) (hb : Wd.ok b = true) (h : ¬ Wd.sg a < Wd.sg b) :
    Calls Try.prog 14 #[.int .i64 11, .int .i64 a, .int .i64 b] w fun e w' => e = .returned (.tuple #[.int .i64 (Wd.dv 11 a b), .int .i64 (Wd.dc 11 a b)]) ∧ ∃ q, w' = w.drewN q := by
  obtain ⟨h3, h4⟩ := Wd.ok_iff.1 ha
  obtain ⟨h5, h6⟩ := Wd.ok_iff.1 hb
  go_enter Try.func14, Try.ntmps14
  go_wp2_with (first | (go_at_call 17; refine (spec_WordOk _ _).mono ?_; rintro e w' ⟨rfl, rfl⟩) | (go_at_call 15; refine (spec_Wrap _ _).mono ?_; rintro e w' ⟨rfl, rfl⟩) | (go_at_call 26; refine (spec_Signed _ _).mono ?_; rintro e w' ⟨rfl, rfl⟩) | go_in)
  all_goals (go_ret2; exact ⟨ret_two (Wd.dv11n ha hb (by simpa using h)) (Wd.dc_0 ha hb (by omega) (by omega)), 0, rfl⟩)
theorem spec_Done_12y (a b : Int) (w : World) (ha : Wd.ok a = true) (hb : Wd.ok b = true) (h : a < b) :
    Calls Try.prog 14 #[.int .i64 12, .int .i64 a, .int .i64 b] w fun e w' => e = .returned (.tuple #[.int .i64 (Wd.dv 12 a b), .int .i64 (Wd.dc 12 a b)]) ∧ ∃ q, w' = w.drewN q := by
  obtain ⟨h3, h4⟩ := Wd.ok_iff.1 ha
  obtain ⟨h5, h6⟩ := Wd.ok_iff.1 hb
  go_enter Try.func14, Try.ntmps14
  go_wp2_with (first | (go_at_call 17; refine (spec_WordOk _ _).mono ?_; rintro e w' ⟨rfl, rfl⟩) | (go_at_call 15; refine (spec_Wrap _ _).mono ?_; rintro e w' ⟨rfl, rfl⟩) | (go_at_call 26; refine (spec_Signed _ _).mono ?_; rintro e w' ⟨rfl, rfl⟩) | go_in)
  all_goals (go_ret2; exact ⟨ret_two (Wd.dv12y ha hb (by simpa using h)) (Wd.dc_0 ha hb (by omega) (by omega)), 0, rfl⟩)
theorem spec_Done_12n (a b : Int) (w : World) (ha : Wd.ok a = true) (hb : Wd.ok b = true) (h : ¬ a < b) :
    Calls Try.prog 14 #[.int .i64 12, .int .i64 a, .int .i64 b] w fun e w' => e = .returned (.tuple #[.int .i64 (Wd.dv 12 a b), .int .i64 (Wd.dc 12 a b)]) ∧ ∃ q, w' = w.drewN q := by
  obtain ⟨h3, h4⟩ := Wd.ok_iff.1 ha
  obtain ⟨h5, h6⟩ := Wd.ok_iff.1 hb
  go_enter Try.func14, Try.ntmps14
  go_wp2_with (first | (go_at_call 17; refine (spec_WordOk _ _).mono ?_; rintro e w' ⟨rfl, rfl⟩) | (go_at_call 15; refine (spec_Wrap _ _).mono ?_; rintro e w' ⟨rfl, rfl⟩) | (go_at_call 26; refine (spec_Signed _ _).mono ?_; rintro e w' ⟨rfl, rfl⟩) | go_in)
  all_goals (go_ret2; exact ⟨ret_two (Wd.dv12n ha hb (by simpa using h)) (Wd.dc_0 ha hb (by omega) (by omega)), 0, rfl⟩)
end Go.Proofs.Ytlpnpbpminbpiaa
