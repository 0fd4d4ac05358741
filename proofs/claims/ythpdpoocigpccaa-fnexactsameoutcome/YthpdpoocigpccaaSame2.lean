/-
  Chapter 8: whether two outcomes are the same.
-/
import Derived.Test.YthpdpoocigpccaaSame
import Derived.Test.YthpdpoocigpccaaArr0
namespace Go.Proofs.Ythpdpoocigpccaa
open Go.RowKit Go.Shelf
set_option linter.unusedVariables false
set_option maxRecDepth 20000
set_option maxHeartbeats 2000000 in
theorem impl_Same (a b : Option Addr) (len len' cap cap' : Nat) (c1 v1 c2 v2 : Int) (xs ys : List Int) (w : World) (hs : IL w a len xs) (hs' : IL w b len' ys) :
    Calls Try.prog 7 #[.agg #[.int .i64 c1, .int .i64 v1, .slice a len cap], .agg #[.int .i64 c2, .int .i64 v2, .slice b len' cap']] w fun e w' => e = .returned (.bool (decide (c1 = c2 ∧ v1 = v2 ∧ xs = ys))) ∧ Below w.heap.size w w' := by
  have hB := below_two w (.cells #[.int .i64 c1, .int .i64 v1, .slice a len cap] 27) (.cells #[.int .i64 c2, .int .i64 v2, .slice b len' cap'] 27)
  have hcon := equal_any a b len len' cap cap' xs ys _ (hs.kept hB) (hs'.kept hB)
  clear hs hs'
  by_cases h1 : c1 = c2
  · subst h1
    by_cases h2 : v1 = v2
    · subst h2
      have HD : Hid (decide (c1 = c1 ∧ v1 = v1 ∧ xs = ys) = decide (xs = ys)) := by show _ = _; simp
      go_enter Try.func7, Try.ntmps7
      go_wp2_with fail
      refine hcon.mono ?_
      rintro e w' ⟨rfl, hB'⟩
      dsimp only
      have HB := Hid.put (hB.trans (hB'.mono hB.size))
      clear hcon hB hB'
      generalize decide (xs = ys) = r at *
      go_wp2
      go_ret
      rw [HD.out]
      exact ⟨by cases r <;> rfl, HB.out⟩
    · have HD : Hid (decide (c1 = c1 ∧ v1 = v2 ∧ xs = ys) = false) := by show _ = _; simp [h2]
      have hbq : (v1 == v2) = false := by simpa using h2
      clear hcon
      go_enter Try.func7, Try.ntmps7
      go_wp2
      go_ret
      (try rw [HD.out])
      exact ⟨rfl, hB⟩
  · have HD : Hid (decide (c1 = c2 ∧ v1 = v2 ∧ xs = ys) = false) := by show _ = _; simp [h1]
    have hbq : (c1 == c2) = false := by simpa using h1
    clear hcon
    go_enter Try.func7, Try.ntmps7
    go_wp2
    go_ret
    rw [HD.out]
    exact ⟨rfl, hB⟩
set_option maxHeartbeats 2000000 in
theorem spec_Same (a b : Option Addr) (len len' cap cap' : Nat) (c1 v1 c2 v2 : Int) (xs ys : List Int) (w : World) (hs : IL w a len xs) (hs' : IL w b len' ys) :
    Calls Try.prog 5 #[.agg #[.int .i64 c1, .int .i64 v1, .slice a len cap], .agg #[.int .i64 c2, .int .i64 v2, .slice b len' cap']] w fun e w' => e = .returned (.bool (decide (c1 = c2 ∧ v1 = v2 ∧ xs = ys))) ∧ Below w.heap.size w w' := by
  have hB := below_two w (.cells #[.int .i64 c1, .int .i64 v1, .slice a len cap] 27) (.cells #[.int .i64 c2, .int .i64 v2, .slice b len' cap'] 27)
  have hcon := l1Same_any a b len len' cap cap' xs ys _ (hs.kept hB) (hs'.kept hB)
  clear hs hs'
  by_cases h1 : c1 = c2
  · subst h1
    by_cases h2 : v1 = v2
    · subst h2
      have HD : Hid (decide (c1 = c1 ∧ v1 = v1 ∧ xs = ys) = decide (xs = ys)) := by show _ = _; simp
      go_enter Try.func5, Try.ntmps5
      go_wp2_with fail
      refine hcon.mono ?_
      rintro e w' ⟨rfl, hB'⟩
      dsimp only
      have HB := Hid.put (hB.trans (hB'.mono hB.size))
      clear hcon hB hB'
      generalize decide (xs = ys) = r at *
      go_wp2
      go_ret
      rw [HD.out]
      exact ⟨by cases r <;> rfl, HB.out⟩
    · have HD : Hid (decide (c1 = c1 ∧ v1 = v2 ∧ xs = ys) = false) := by show _ = _; simp [h2]
      have hbq : (v1 == v2) = false := by simpa using h2
      clear hcon
      go_enter Try.func5, Try.ntmps5
      go_wp2
      go_ret
      (try rw [HD.out])
      exact ⟨rfl, hB⟩
  · have HD : Hid (decide (c1 = c2 ∧ v1 = v2 ∧ xs = ys) = false) := by show _ = _; simp [h1]
    have hbq : (c1 == c2) = false := by simpa using h1
    clear hcon
    go_enter Try.func5, Try.ntmps5
    go_wp2
    go_ret
    rw [HD.out]
    exact ⟨rfl, hB⟩
end Go.Proofs.Ythpdpoocigpccaa
