/-
  Opens, the program's and the specification's.
-/
import Derived.Test.YtfndpbdhcackpaaStep2
namespace Go.Proofs.Ytfndpbdhcackpaa
open Go.RowKit
set_option linter.unusedVariables false
set_option maxRecDepth 20000
theorem St.opens_or (op : Int) : (op == 8 || op == 9 || op == 10) = St.opens op := by
  unfold St.opens
  by_cases h8 : op = 8
  · subst h8; rfl
  · by_cases h9 : op = 9
    · subst h9; rfl
    · by_cases h10 : op = 10
      · subst h10; rfl
      · simp [h8, h9, h10]
def St.opn (op a : Int) : Bool := St.ok op a && St.opens op
set_option maxHeartbeats 1000000 in
theorem impl_Opens (op a : Int) (w : World) :
    Calls Try.prog 18 #[.agg #[.int .i64 op, .int .i64 a]] w fun e w' => e = .returned (.bool (St.opn op a)) ∧ Below w.heap.size w w' := by
  rcases h : St.ok op a with _ | _
  · go_enter Try.func18, Try.ntmps18
    go_wp2_with fail
    refine (impl_StepOk _ _ _).mono ?_
    rintro e w1 ⟨rfl, hB⟩
    obtain ⟨hc0, hc1, hlt⟩ := step_cells w _ _ _ hB
    have hB1 := (below_one w _).trans (hB.mono (by simp))
    go_wp2
    go_ret
    exact ⟨by rw [St.opn, h]; rfl, hB1⟩
  · go_enter Try.func18, Try.ntmps18
    go_wp2_with fail
    refine (impl_StepOk _ _ _).mono ?_
    rintro e w1 ⟨rfl, hB⟩
    obtain ⟨hc0, hc1, hlt⟩ := step_cells w _ _ _ hB
    have hB1 := (below_one w _).trans (hB.mono (by simp))
    go_wp2_with fail
    refine (impl_ruleOf _ _).mono ?_
    rintro e w2 ⟨rfl, hB2⟩
    have hB3 := hB1.trans (hB2.mono hB1.size)
    have hf : ∀ (x y z : Value) (wx : World), (Instr.field 54 (.agg #[x, y, z]) 2).run Try.prog wx = .ok z wx := fun _ _ _ _ => by kernel_rfl
    go_wp2
    go_ret
    exact ⟨by rw [St.opn, h]; rfl, hB3⟩
set_option maxHeartbeats 1000000 in
theorem spec_Opens (op a : Int) (w : World) :
    Calls Try.prog 47 #[.agg #[.int .i64 op, .int .i64 a]] w fun e w' => e = .returned (.bool (St.opn op a)) ∧ Below w.heap.size w w' := by
  rcases h : St.ok op a with _ | _
  · go_enter Try.func47, Try.ntmps47
    go_wp2_with fail
    refine (spec_StepOk _ _ _).mono ?_
    rintro e w1 ⟨rfl, hB⟩
    obtain ⟨hc0, hc1, hlt⟩ := step_cells w _ _ _ hB
    have hB1 := (below_one w _).trans (hB.mono (by simp))
    go_wp2
    go_ret
    exact ⟨by rw [St.opn, h]; rfl, hB1⟩
  · go_enter Try.func47, Try.ntmps47
    go_wp2_with fail
    refine (spec_StepOk _ _ _).mono ?_
    rintro e w1 ⟨rfl, hB⟩
    obtain ⟨hc0, hc1, hlt⟩ := step_cells w _ _ _ hB
    have hB1 := (below_one w _).trans (hB.mono (by simp))
    go_wp2
    all_goals (go_ret; exact ⟨ret_bool (by rw [St.opn, h, Bool.true_and, ← St.opens_or]; try simp_all), hB1⟩)
end Go.Proofs.Ytfndpbdhcackpaa
