/-
  Contracts of WordOk: the program's and the specification's answer the same.
-/
import Derived.Test.YtellfmhljjdjbaaRows
import Derived.Test.YtellfmhljjdjbaaMath
import Derived.WalkKit
import Derived.ProofKit
namespace Go.Proofs.Ytellfmhljjdjbaa
set_option linter.unusedVariables false
set_option maxRecDepth 20000
theorem spec_WordOk (a : Int) (w : World) :
    Calls Try.prog 22 #[.int .i64 a] w fun e w' => e = .returned (.bool (Wd.ok a)) ∧ w' = w := by
  by_cases h1 : a < 0
  · rw [Wd.ok_neg1 h1]
    go_enter Try.func22, Try.ntmps22
    go_wp2
    all_goals (go_ret; first | exact ⟨rfl, rfl⟩ | exact ⟨ret_bool (by simp; omega), rfl⟩)
  · by_cases h2 : 4294967295 < a
    · rw [Wd.ok_neg2 h2]
      go_enter Try.func22, Try.ntmps22
      go_wp2
      all_goals (go_ret; first | exact ⟨rfl, rfl⟩ | exact ⟨ret_bool (by simp; omega), rfl⟩)
    · rw [Wd.ok_pos (by omega) (by omega)]
      have h3 : 0 ≤ a := by omega
      have h4 : a ≤ 4294967295 := by omega
      clear h1 h2
      go_enter Try.func22, Try.ntmps22
      go_wp2
      all_goals (go_ret; first | exact ⟨rfl, rfl⟩ | exact ⟨ret_bool (by simp; omega), rfl⟩)
theorem impl_inRange (n lo hi : Int) (w : World) :
    Calls Try.prog 20 #[.int .i64 n, .int .i64 lo, .int .i64 hi] w fun e w' => e = .returned (.bool (Wd.inB n lo hi)) ∧ w' = w := by
  by_cases h1 : lo ≤ n
  · by_cases h2 : n ≤ hi
    · rw [Wd.in_pos h1 h2]
      go_enter Try.func20, Try.ntmps20
      go_wp2
      all_goals (go_ret; first | exact ⟨rfl, rfl⟩ | exact ⟨ret_bool (by simp; omega), rfl⟩)
    · rw [Wd.in_neg2 (by omega)]
      go_enter Try.func20, Try.ntmps20
      go_wp2
      all_goals (go_ret; first | exact ⟨rfl, rfl⟩ | exact ⟨ret_bool (by simp; omega), rfl⟩)
  · rw [Wd.in_neg1 (by omega)]
    go_enter Try.func20, Try.ntmps20
    go_wp2
    all_goals (go_ret; first | exact ⟨rfl, rfl⟩ | exact ⟨ret_bool (by simp; omega), rfl⟩)
theorem spec_l1In (n lo hi : Int) (w : World) :
    Calls Try.prog 14 #[.int .i64 n, .int .i64 lo, .int .i64 hi] w fun e w' => e = .returned (.bool (Wd.inB n lo hi)) ∧ w' = w := by
  by_cases h1 : lo ≤ n
  · by_cases h2 : n ≤ hi
    · rw [Wd.in_pos h1 h2]
      go_enter Try.func14, Try.ntmps14
      go_wp2
      all_goals (go_ret; first | exact ⟨rfl, rfl⟩ | exact ⟨ret_bool (by simp; omega), rfl⟩)
    · rw [Wd.in_neg2 (by omega)]
      go_enter Try.func14, Try.ntmps14
      go_wp2
      all_goals (go_ret; first | exact ⟨rfl, rfl⟩ | exact ⟨ret_bool (by simp; omega), rfl⟩)
  · rw [Wd.in_neg1 (by omega)]
    go_enter Try.func14, Try.ntmps14
    go_wp2
    all_goals (go_ret; first | exact ⟨rfl, rfl⟩ | exact ⟨ret_bool (by simp; omega), rfl⟩)
end Go.Proofs.Ytellfmhljjdjbaa
