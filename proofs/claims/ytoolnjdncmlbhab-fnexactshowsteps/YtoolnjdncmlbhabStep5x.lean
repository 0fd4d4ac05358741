/-
  ShowSteps of the specification.
-/
import Derived.Test.YtoolnjdncmlbhabStep5
namespace Go.Proofs.Ytoolnjdncmlbhab
open Go.RowKit Go.Shelf
set_option linter.unusedVariables false
set_option maxRecDepth 20000
set_option maxHeartbeats 1000000 in
theorem spec_ShowSteps (a : Option Addr) (len cap : Nat) (xs : List (Int × Int)) (w : World) (hs : SL w a len xs) :
    Calls Try.prog 12 #[.slice a len cap] w fun e w' => e = .returned (.string (St.showS xs)) ∧ Below w.heap.size w w' := by
  rcases h : (decide (len ≤ 80) && St.okAll xs) with _ | _
  · go_enter Try.func12, Try.ntmps12
    go_wp2_with fail
    refine (spec_l3Ok a len cap xs _ hs).mono ?_
    rintro e w1 ⟨rfl, hB⟩
    rw [h]
    go_wp2
    go_ret
    refine ⟨?_, hB⟩
    rw [St.showS, if_neg]
    · rfl
    · rw [hs.1]
      simp only [Bool.and_eq_false_iff, decide_eq_false_iff_not] at h
      rcases h with h | h
      · exact fun e => h e.1
      · rw [h]; simp
  · rw [Bool.and_eq_true] at h
    obtain ⟨h1, h2⟩ := h
    have h1 : len ≤ 80 := of_decide_eq_true h1
    go_enter Try.func12, Try.ntmps12
    go_wp2_with fail
    refine (spec_l3Ok a len cap xs _ hs).mono ?_
    rintro e w1 ⟨rfl, hB⟩
    rw [decide_eq_true h1, h2]
    go_wp2_with fail
    refine (spec_l3Show a len cap xs _ (hs.kept hB) h1 h2).mono ?_
    rintro e w2 ⟨rfl, hB2⟩
    have hB3 := hB.trans (hB2.mono hB.size)
    go_wp2
    go_ret
    exact ⟨by rw [St.showS, if_pos ⟨by rw [hs.1]; exact h1, h2⟩]; rfl, hB3⟩
end Go.Proofs.Ytoolnjdncmlbhab
