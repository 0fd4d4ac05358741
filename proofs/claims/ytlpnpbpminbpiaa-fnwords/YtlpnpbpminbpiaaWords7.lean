/-
  Contracts of Done at every argument, the program's and the specification's.
-/
import Derived.Test.YtlpnpbpminbpiaaWords5
import Derived.Test.YtlpnpbpminbpiaaWords6
namespace Go.Proofs.Ytlpnpbpminbpiaa
set_option linter.unusedVariables false
theorem spec_Done_l (k a b : Int) (w : World) (ha : Wd.ok a = true) (hb : Wd.ok b = true) (hk : k < 1) :
    Calls Try.prog 14 #[.int .i64 k, .int .i64 a, .int .i64 b] w fun e w' => e = .returned (.tuple #[.int .i64 (Wd.dv k a b), .int .i64 (Wd.dc k a b)]) ∧ ∃ q, w' = w.drewN q := by
  go_enter Try.func14, Try.ntmps14
  go_wp2_with (first | (go_at_call 17; refine (spec_WordOk _ _).mono ?_; rintro e w' ⟨rfl, rfl⟩) | go_in)
  all_goals (go_ret2; exact ⟨ret_two (Wd.dv_bad (by omega)) (Wd.dc_bad ha hb (by omega)), 0, rfl⟩)
theorem spec_Done_h (k a b : Int) (w : World) (ha : Wd.ok a = true) (hb : Wd.ok b = true) (hk : 12 < k) :
    Calls Try.prog 14 #[.int .i64 k, .int .i64 a, .int .i64 b] w fun e w' => e = .returned (.tuple #[.int .i64 (Wd.dv k a b), .int .i64 (Wd.dc k a b)]) ∧ ∃ q, w' = w.drewN q := by
  go_enter Try.func14, Try.ntmps14
  go_wp2_with (first | (go_at_call 17; refine (spec_WordOk _ _).mono ?_; rintro e w' ⟨rfl, rfl⟩) | go_in)
  all_goals (go_ret2; exact ⟨ret_two (Wd.dv_bad (by omega)) (Wd.dc_bad ha hb (by omega)), 0, rfl⟩)
theorem spec_Done_a (k a b : Int) (w : World) (ha : Wd.ok a = false) :
    Calls Try.prog 14 #[.int .i64 k, .int .i64 a, .int .i64 b] w fun e w' => e = .returned (.tuple #[.int .i64 (Wd.dv k a b), .int .i64 (Wd.dc k a b)]) ∧ ∃ q, w' = w.drewN q := by
  go_enter Try.func14, Try.ntmps14
  go_wp2_with (first | (go_at_call 17; refine (spec_WordOk _ _).mono ?_; rintro e w' ⟨rfl, rfl⟩) | go_in)
  all_goals (go_ret2; exact ⟨ret_two (Wd.dv_no (.inl ha)) (Wd.dc_no (.inl ha)), 0, rfl⟩)
theorem spec_Done_b (k a b : Int) (w : World) (ha : Wd.ok a = true) (hb : Wd.ok b = false) :
    Calls Try.prog 14 #[.int .i64 k, .int .i64 a, .int .i64 b] w fun e w' => e = .returned (.tuple #[.int .i64 (Wd.dv k a b), .int .i64 (Wd.dc k a b)]) ∧ ∃ q, w' = w.drewN q := by
  go_enter Try.func14, Try.ntmps14
  go_wp2_with (first | (go_at_call 17; refine (spec_WordOk _ _).mono ?_; rintro e w' ⟨rfl, rfl⟩) | go_in)
  all_goals (go_ret2; exact ⟨ret_two (Wd.dv_no (.inr hb)) (Wd.dc_no (.inr hb)), 0, rfl⟩)
theorem spec_Done (k a b : Int) (w : World) :
    Calls Try.prog 14 #[.int .i64 k, .int .i64 a, .int .i64 b] w fun e w' => e = .returned (.tuple #[.int .i64 (Wd.dv k a b), .int .i64 (Wd.dc k a b)]) ∧ ∃ q, w' = w.drewN q := by
  rcases ha : Wd.ok a with _ | _
  · exact spec_Done_a k a b w ha
  rcases hb : Wd.ok b with _ | _
  · exact spec_Done_b k a b w ha hb
  by_cases h1 : k < 1
  · exact spec_Done_l k a b w ha hb h1
  by_cases h2 : 12 < k
  · exact spec_Done_h k a b w ha hb h2
  have hk : k = 1 ∨ k = 2 ∨ k = 3 ∨ k = 4 ∨ k = 5 ∨ k = 6 ∨ k = 7 ∨ k = 8 ∨ k = 9 ∨ k = 10 ∨ k = 11 ∨ k = 12 := by omega
  clear h1 h2
  rcases hk with rfl | rfl | rfl | rfl | rfl | rfl | rfl | rfl | rfl | rfl | rfl | rfl
  · exact spec_Done_1 a b w ha hb
  · exact spec_Done_2 a b w ha hb
  · exact spec_Done_3 a b w ha hb
  · by_cases h0 : Wd.sg b = 0
    · exact spec_Done_4z a b w ha hb h0
    · by_cases h1 : Wd.sg a = -2147483648 ∧ Wd.sg b = -1
      · exact spec_Done_4o a b w ha hb h1.1 h1.2
      · exact spec_Done_4d a b w ha hb h0 h1
  · exact spec_Done_5 a b w ha hb
  · exact spec_Done_6 a b w ha hb
  · exact spec_Done_7 a b w ha hb
  · exact spec_Done_8 a b w ha hb
  · exact spec_Done_9 a b w ha hb
  · by_cases h : a = b
    · exact spec_Done_10y a b w ha hb (by simpa using h)
    · exact spec_Done_10n a b w ha hb (by simpa using h)
  · by_cases h : Wd.sg a < Wd.sg b
    · exact spec_Done_11y a b w ha hb h
    · exact spec_Done_11n a b w ha hb h
  · by_cases h : a < b
    · exact spec_Done_12y a b w ha hb h
    · exact spec_Done_12n a b w ha hb h
attribute [local go_sem] neq_op neq_op0 eql_re eql_re0
theorem impl_Done_l (k a b : Int) (w : World) (ha : Wd.ok a = true) (hb : Wd.ok b = true) (hk : k < 1) :
    Calls Try.prog 11 #[.int .i64 k, .int .i64 a, .int .i64 b] w fun e w' => e = .returned (.tuple #[.int .i64 (Wd.dv k a b), .int .i64 (Wd.dc k a b)]) ∧ ∃ q, w' = w.drewN q := by
  go_enter Try.func11, Try.ntmps11
  go_wp2_with (first | (go_at_call 16; refine (impl_WordOk _ _).mono ?_; rintro e w' ⟨rfl, rfl⟩) | go_in)
  all_goals (go_ret2; exact ⟨ret_two (Wd.dv_bad (by omega)) (Wd.dc_bad ha hb (by omega)), 0, rfl⟩)
theorem impl_Done_h (k a b : Int) (w : World) (ha : Wd.ok a = true) (hb : Wd.ok b = true) (hk : 12 < k) :
    Calls Try.prog 11 #[.int .i64 k, .int .i64 a, .int .i64 b] w fun e w' => e = .returned (.tuple #[.int .i64 (Wd.dv k a b), .int .i64 (Wd.dc k a b)]) ∧ ∃ q, w' = w.drewN q := by
  go_enter Try.func11, Try.ntmps11
  go_wp2_with (first | (go_at_call 16; refine (impl_WordOk _ _).mono ?_; rintro e w' ⟨rfl, rfl⟩) | go_in)
  all_goals (go_ret2; exact ⟨ret_two (Wd.dv_bad (by omega)) (Wd.dc_bad ha hb (by omega)), 0, rfl⟩)
theorem impl_Done_a (k a b : Int) (w : World) (ha : Wd.ok a = false) :
    Calls Try.prog 11 #[.int .i64 k, .int .i64 a, .int .i64 b] w fun e w' => e = .returned (.tuple #[.int .i64 (Wd.dv k a b), .int .i64 (Wd.dc k a b)]) ∧ ∃ q, w' = w.drewN q := by
  go_enter Try.func11, Try.ntmps11
  go_wp2_with (first | (go_at_call 16; refine (impl_WordOk _ _).mono ?_; rintro e w' ⟨rfl, rfl⟩) | go_in)
  all_goals (go_ret2; exact ⟨ret_two (Wd.dv_no (.inl ha)) (Wd.dc_no (.inl ha)), 0, rfl⟩)
theorem impl_Done_b (k a b : Int) (w : World) (ha : Wd.ok a = true) (hb : Wd.ok b = false) :
    Calls Try.prog 11 #[.int .i64 k, .int .i64 a, .int .i64 b] w fun e w' => e = .returned (.tuple #[.int .i64 (Wd.dv k a b), .int .i64 (Wd.dc k a b)]) ∧ ∃ q, w' = w.drewN q := by
  go_enter Try.func11, Try.ntmps11
  go_wp2_with (first | (go_at_call 16; refine (impl_WordOk _ _).mono ?_; rintro e w' ⟨rfl, rfl⟩) | go_in)
  all_goals (go_ret2; exact ⟨ret_two (Wd.dv_no (.inr hb)) (Wd.dc_no (.inr hb)), 0, rfl⟩)
theorem impl_Done (k a b : Int) (w : World) :
    Calls Try.prog 11 #[.int .i64 k, .int .i64 a, .int .i64 b] w fun e w' => e = .returned (.tuple #[.int .i64 (Wd.dv k a b), .int .i64 (Wd.dc k a b)]) ∧ ∃ q, w' = w.drewN q := by
  rcases ha : Wd.ok a with _ | _
  · exact impl_Done_a k a b w ha
  rcases hb : Wd.ok b with _ | _
  · exact impl_Done_b k a b w ha hb
  by_cases h1 : k < 1
  · exact impl_Done_l k a b w ha hb h1
  by_cases h2 : 12 < k
  · exact impl_Done_h k a b w ha hb h2
  have hk : k = 1 ∨ k = 2 ∨ k = 3 ∨ k = 4 ∨ k = 5 ∨ k = 6 ∨ k = 7 ∨ k = 8 ∨ k = 9 ∨ k = 10 ∨ k = 11 ∨ k = 12 := by omega
  clear h1 h2
  rcases hk with rfl | rfl | rfl | rfl | rfl | rfl | rfl | rfl | rfl | rfl | rfl | rfl
  · exact impl_Done_1 a b w ha hb
  · exact impl_Done_2 a b w ha hb
  · exact impl_Done_3 a b w ha hb
  · by_cases h0 : b = 0
    · exact impl_Done_4z a b w ha hb (by simpa using h0)
    · by_cases h1 : Wd.sg a = -2147483648 ∧ Wd.sg b = -1
      · exact impl_Done_4o a b w ha hb h1.1 h1.2
      · exact impl_Done_4d a b w ha hb h0 h1
  · exact impl_Done_5 a b w ha hb
  · exact impl_Done_6 a b w ha hb
  · exact impl_Done_7 a b w ha hb
  · exact impl_Done_8 a b w ha hb
  · exact impl_Done_9 a b w ha hb
  · by_cases h : a = b
    · exact impl_Done_10y a b w ha hb (by simpa using h)
    · exact impl_Done_10n a b w ha hb (by simpa using h)
  · by_cases h : Wd.sg a < Wd.sg b
    · exact impl_Done_11y a b w ha hb h
    · exact impl_Done_11n a b w ha hb h
  · by_cases h : a < b
    · exact impl_Done_12y a b w ha hb h
    · exact impl_Done_12n a b w ha hb h
end Go.Proofs.Ytlpnpbpminbpiaa
